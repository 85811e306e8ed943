import Derived.Test.YtnamdihclpbdfabGreatKtZag
import Derived.WalkSpells
namespace Go.Proofs.YtnamdihclpbdfabGreat
set_option linter.all false
open Go.Proofs.Tryz
variable {z:bp}{f n:Int}{l:aE}{args s ts:aw}{ns vs:bo}{b:Nat}{β:Nat->Option Nat}{ok:br}{V:bt}{o:Obj}{a:bj}{t:Tr}{T:Ty}{v v':cm}{W w w':cg}
inductive iF where
 | no (e:Int)
 | ok (f:Bool) (ts:List Ty)
def sFq:aw->List Int->Bool
 | _,[]=>true
 | [],_::_=>false
 | T::s,k::ks=>(decide (k=0)||decide (T.t=k))&&sFq s ks
structure Ins where
 p:Int
 n:Int
 types:aw
 rows:List aE
 data:Tr
def tr0:Tr:=.nd 0 0 0 ⟨#[]⟩ []
def bR (p:Int):bw :=
 if p=41\/p=43\/p=44 then [110]
 else if p=45 then [116,118]
 else if p=50\/p=51\/p=54\/p=56\/p=82\/p=88 then [116]
 else if p=61 then [116,117]
 else if p=52\/p=55\/p=58\/p=64 then [99,100]
 else if p=60\/p=65\/p=68 then [99]
 else if p=66 then [116,117,99]
 else []
def iy (i:Ins) (f:UInt8) (t:Tr):Option Ins :=
 if f=110 then (if t.k0=0/\0<=t.n0/\t.n0<=40 then some { i with n:=t.n0 } else none)
 else if f=116\/f=117 then (if fu t then some { i with types:=i.types++[kreadT t] } else none)
 else if f=99\/f=100 then (if t.k0=3 then some { i with rows:=i.rows++[t.args0] } else none)
 else some { i with data:=t }
def takesF:Ins->bw->aE->Option Ins
 | i,f::fs,t::l=>match iy i f t with
  | none=>none
  | some j=>takesF j fs l
 | i,[],_=>some i
 | i,_::_,[]=>some i
def iY (t:Tr):Option Ins :=
 if t.k0=2/\40<=t.p0/\t.args0.length=(bR t.p0).length then takesF ⟨t.p0,0,[],[],tr0⟩ (bR t.p0) t.args0 else none
mutual
def mintsT:Tr->Bool
 | .nd k _ p _ args=>(decide (k=2/\p=84))||mintsTs args
def mintsTs:aE->Bool
 | []=>false
 | t::l=>mintsT t||mintsTs l
end
def fQ (s top:aw):iF:=.ok false (top++s)
def meetF:iF->iF->iF
 | .no e,_=>.no e
 | .ok _ _,.no e=>.no e
 | .ok f a,.ok g b=>if f then .ok g b else if g\/sameTs a b then .ok f a else .no 5
def rowAt (i:Ins) (k:Nat):aE:=(i.rows[k]?).getD []
def iC (row:aE->aw->iF) (i:Ins) (s x y:aw):iF:=meetF (row (rowAt i 0) (x++s)) (row (rowAt i 1) (y++s))
def dM (row:aE->aw->iF) (i:Ins) (x y z:aw):iF:=match meetF (row (rowAt i 0) x) (fQ y [])with
 | .no e=>.no e
 | .ok _ _=>fQ z []
def l7 (row:aE->aw->iF) (i:Ins) (top:Ty) (s:aw):iF:=match row (rowAt i 0) s with
 | .no e=>.no e
 | .ok f ts=>if f then .no 1 else fQ ts [top]
def dG (i:Ins) (s:aw):iF :=
 if i.p=40/\sFq s [0]then fQ (s.drop 1) []
 else if i.p=41/\1<=i.n/\i.n<=s.length/\A7 (bB s (i.n.toNat - 1))then fQ s [bB s (i.n.toNat - 1)]
 else if i.p=42/\sFq s [0,0]then fQ (s.drop 2) [bB s 1,bB s 0]
 else if i.p=43/\i.n<s.length then fQ (s.take i.n.toNat++s.drop (i.n.toNat+1)) [bB s i.n.toNat]
 else if i.p=44/\i.n<s.length then fQ (s.take 1++s.drop (i.n.toNat+1)) ((s.drop 1).take i.n.toNat)
 else .no 5
def bO (i:Ins) (s:aw):iF :=
 if i.p=46/\sFq s [0,0]then fQ (s.drop 2) [.nd 11 [bB s 0,bB s 1]]
 else if i.p=47/\sFq s [11]then fQ (s.drop 1) (bB s 0).args
 else if i.p=48/\sFq s [11]then fQ (s.drop 1) [bB (bB s 0).args 0]
 else if i.p=49/\sFq s [11]then fQ (s.drop 1) [bB (bB s 0).args 1]
 else if i.p=50/\sFq s [0]then fQ (s.drop 1) [.nd 12 [bB s 0,bB i.types 0]]
 else if i.p=51/\sFq s [0]then fQ (s.drop 1) [.nd 12 [bB i.types 0,bB s 0]]
 else if i.p=53/\sFq s [0]then fQ (s.drop 1) [.nd 9 [bB s 0]]
 else if i.p=54 then fQ s [.nd 9 [bB i.types 0]]
 else .no 5
def aP (i:Ins) (s:aw):iF :=
 if i.p=56 then fQ s [.nd 10 [bB i.types 0]]
 else if i.p=57/\sFq s [0,10]/\sameT (bB s 0) (bB (bB s 1).args 0)then fQ (s.drop 1) []
 else if i.p=59/\(sFq s [6]\/sFq s [10]\/sFq s [13])then fQ (s.drop 1) [.nd 4 []]
 else if i.p=61/\oF (bB i.types 0)then fQ s [.nd 13 i.types]
 else if i.p=62/\sFq s [0,13]/\sameT (bB s 0) (bB (bB s 1).args 0)/\A7 (bB (bB s 1).args 1)then fQ (s.drop 2) [.nd 9 [bB (bB s 1).args 1]]
 else if i.p=63/\sFq s [0,9,13]/\sameT (bB s 0) (bB (bB s 2).args 0)/\sameT (bB (bB s 1).args 0) (bB (bB s 2).args 1)then fQ (s.drop 2) []
 else .no 5
def eG (row:aE->aw->iF) (i:Ins) (s:aw):iF :=
 if i.p=52/\sFq s [12]then iC row i (s.drop 1) ((bB s 0).args.take 1) ((bB s 0).args.drop 1)
 else if i.p=55/\sFq s [9]then iC row i (s.drop 1) [] (bB s 0).args
 else if i.p=58/\sFq s [10]then iC row i (s.drop 1) [bB (bB s 0).args 0,bB s 0] []
 else if i.p=64/\sFq s [2]then iC row i (s.drop 1) [] []
 else .no 5
def bP (row:aE->aw->iF) (i:Ins) (s:aw):iF :=
 if i.p=60/\sFq s [10]then dM row i ((bB s 0).args++s.drop 1) (s.drop 1) (s.drop 1)
 else if i.p=60/\sFq s [13]then dM row i ([.nd 11 (bB s 0).args]++s.drop 1) (s.drop 1) (s.drop 1)
 else if i.p=65/\sFq s [2]then dM row i (s.drop 1) s (s.drop 1)
 else if i.p=66/\mintsTs (rowAt i 0)=false then dM row i (i.types.take 1) (i.types.drop 1) ([.nd 14 i.types]++s)
 else if i.p=67/\sFq s [0,14]/\sameT (bB s 0) (bB (bB s 1).args 0)then fQ (s.drop 2) [bB (bB s 1).args 1]
 else if i.p=68/\sFq s [0]then l7 row i (bB s 0) (s.drop 1)
 else .no 5
def zC (t:Int):Bool:=decide (t=3\/t=4)
def Jt (q r:Ty):Ty:=.nd 9 [.nd 11 [q,r]]
def ZR (p a b:Int):Option Ty :=
 if p=69/\a=5/\b=5 then some (.nd 5 [])
 else if p=70/\a=5/\b=5 then some (.nd 9 [.nd 5 []])
 else if p=71/\(a=5/\b=4\/a=4/\b=5)then some (.nd 5 [])
 else if p=72/\a=5/\b=5 then some (Jt (.nd 4 []) (.nd 5 []))
 else if p=72/\a=5/\b=4 then some (Jt (.nd 5 []) (.nd 5 []))
 else if zC a=false\/zC b=false then none
 else if p=72/\a=4/\b=4 then some (Jt (.nd 4 []) (.nd 4 []))
 else if p=72 then some (Jt (.nd 3 []) (.nd 4 []))
 else if p≠70/\a=4/\b=4 then some (.nd 4 [])
 else some (.nd 3 [])
def bJ (i:Ins) (s:aw):iF :=
 if i.p=93/\sFq s [3]then fQ (s.drop 1) [.nd 4 []]
 else if i.p=94/\sFq s [3]then fQ (s.drop 1) [.nd 9 [.nd 4 []]]
 else if i.p=95/\sFq s [4]then fQ (s.drop 1) [.nd 3 []]
 else if (i.p=69\/i.p=70\/i.p=71\/i.p=72)/\sFq s [0,0]then (match ZR i.p (bB s 0).t (bB s 1).t with
  | some T=>fQ (s.drop 2) [T]
  | none=>.no 5)
 else .no 5
def dI (i:Ins) (s:aw):iF :=
 if i.p=73/\sFq s [0,0]/\sameT (bB s 0) (bB s 1)/\oF (bB s 0)then fQ (s.drop 2) [.nd 3 []]
 else if (i.p=74\/i.p=75\/i.p=76)/\sFq s [3]then fQ (s.drop 1) [.nd 2 []]
 else if i.p=77/\sFq s [2]then fQ (s.drop 1) [.nd 2 []]
 else if (i.p=78\/i.p=79)/\sFq s [2,2]then fQ (s.drop 2) [.nd 2 []]
 else .no 5
def cZ (i:Ins) (s:aw):iF :=
 if i.p=45/\eB (bB i.types 0)/\(jf (bB i.types 0) i.data).isSome then fQ s [bB i.types 0]
 else if i.p=80/\sFq s [6,6]then fQ (s.drop 2) [.nd 6 []]
 else if i.p=81/\sFq s [0]/\eB (bB s 0)then fQ (s.drop 1) [.nd 6 []]
 else if i.p=82/\sFq s [6]/\eB (bB i.types 0)then fQ (s.drop 1) [.nd 9 [bB i.types 0]]
 else if i.p=83/\sFq s [0]/\eB (bB s 0)then .ok true []
 else .no 5
def bF (i:Ins) (s:aw):iF :=
 if i.p=84/\sFq s [0,4]/\oF (bB s 0)then fQ (s.drop 2) [.nd 9 [.nd 15 [bB s 0]]]
 else if i.p=85/\sFq s [15]then fQ s [.nd 11 [.nd 7 [],.nd 11 [bB (bB s 0).args 0,.nd 4 []]]]
 else if i.p=86/\sFq s [15,11]/\sFq (bB s 1).args [4,4]then fQ (s.drop 2) [.nd 9 [.nd 11 [bB s 0,bB s 0]]]
 else if i.p=87/\sFq s [11]/\sFq (bB s 0).args [15,15]/\sameT (bB (bB s 0).args 0) (bB (bB s 0).args 1)then fQ (s.drop 1) [.nd 9 [bB (bB s 0).args 0]]
 else .no 5
def dO (i:Ins) (s:aw):iF :=
 if i.p=88/\sFq s [0,5,7]/\sameT (bB s 0) (bB i.types 0)/\storeT (bB s 0)then fQ (s.drop 3) [.nd 8 []]
 else if i.p=89\/i.p=90 then fQ s [.nd 7 []]
 else if i.p=91\/i.p=92 then fQ s [.nd 5 []]
 else .no 5
def vP (row:aE->aw->iF) (i:Ins) (s:aw):iF :=
 if i.p=40\/i.p=41\/i.p=42\/i.p=43\/i.p=44 then dG i s
 else if i.p=46\/i.p=47\/i.p=48\/i.p=49\/i.p=50\/i.p=51\/i.p=53\/i.p=54 then bO i s
 else if i.p=56\/i.p=57\/i.p=59\/i.p=61\/i.p=62\/i.p=63 then aP i s
 else if i.p=52\/i.p=55\/i.p=58\/i.p=64 then eG row i s
 else if i.p=60\/i.p=65\/i.p=66\/i.p=67\/i.p=68 then bP row i s
 else if i.p=69\/i.p=70\/i.p=71\/i.p=72\/i.p=93\/i.p=94\/i.p=95 then bJ i s
 else if i.p=73\/i.p=74\/i.p=75\/i.p=76\/i.p=77\/i.p=78\/i.p=79 then dI i s
 else if i.p=45\/i.p=80\/i.p=81\/i.p=82\/i.p=83 then cZ i s
 else if i.p=84\/i.p=85\/i.p=86\/i.p=87 then bF i s
 else dO i s
def keptF:iF->iF
 | .no e=>.no e
 | .ok f ts=>if 40<ts.length then .no 7 else if ts.all au then .ok f ts else .no 4
def iG (st:Tr->aw->iF):aE->Bool->aw->iF
 | [],f,s=>.ok f s
 | t::l,f,s=>if f then .no 1 else match keptF (st t s)with
  | .no e=>.no e
  | .ok g s'=>iG st l g s'
def stepF:Nat->Tr->aw->iF
 | 0,_,_=>.no 1
 | N+1,t,s=>if t.k0=3 then iG (stepF N) t.args0 false s else match iY t with
  | none=>.no 1
  | some i=>vP (λl s=>iG (stepF N) l false s) i s
def codeF (n:Tr) (s:aw):iF :=
 if dS n≠0 then .no (dS n)else if n.k0≠3 then .no 1 else if 40<s.length then .no 7 else if s.all au then iG (stepF 300) n.args0 false s else .no 5
def nP{r:iF}{f:Bool}(h:keptF r =.ok f ts):r =.ok f ts/\ts.length<=40/\ts.all au:=by
 cases r with
 | no e=>simp[keptF]at h
 | ok g c =>
  simp only[keptF]at h
  by_cases a:40<c.length
  .simp[a]at h
  .by_cases b:c.all au
   .rw[if_neg a,if_pos b]at h;injection h with d i;subst d;subst i;exact⟨rfl,od,b⟩
   .rw[if_neg a,if_neg b]at h;cases h
def kT (r:iF):Prop:=∀ts,r =.ok true ts->ts=[]
def Ec{st:Tr->aw->iF}(a:∀t s,kT (st t s)):∀(l:aE) (f:Bool) (s:aw) {g:Bool}{ts:aw},s.length<=40->s.all au->(f->s=[])->iG st l f s =.ok g ts->ts.length<=40/\ts.all au/\(g->ts=[])
 | [],f,s,g,ts,c,d,i,h=>by simp only[iG,iF.ok.injEq]at h;obtain⟨rfl,rfl⟩:=h;exact⟨c,d,i⟩
 | t::l,f,s,g,ts,c,d,i,h=>by
  simp only[iG]at h
  by_cases j:f
  .simp[j]at h
  .simp only[j]at h
   cases hk:keptF (st t s)with
   | no e=>simp[hk]at h
   | ok m k =>
    simp only[hk]at h;have⟨e,n,o⟩:=nP hk;exact Ec a l m k n o (λb=>a t s k (by rw[e,b])) (by simpa using h)
def vg(s top:aw):kT (fQ s top):=λts h=>by simp[fQ]at h
def jy(e:Int):kT (.no e):=λts h=>by simp at h
def noTys_fail:kT (.ok true []):=λts h=>by simp at h;exact h
def NQ{c:Prop}[Decidable c]{a b:iF}(d:kT a)(hb:kT b):kT (if c then a else b):=by
 by_cases h:c
 .rw[if_pos h];exact d
 .rw[if_neg h];exact hb
def NR{o:Option Ty}{g:Ty->iF}(a:∀T,kT (g T)){e:Int} : kT (match o with
 | some T=>g T
 | none=>.no e):=by
 cases o with
 | none=>exact jy e
 | some T=>exact a T
def JU{a b:iF}(c:kT a)(hb:kT b):kT (meetF a b):=by
 cases a with
 | no e=>exact jy e
 | ok f x =>
  cases b with
  | no e=>exact jy e
  | ok g y =>
   simp only[meetF];split
   .exact hb
   .split
    .exact c
    .exact jy 5
def ze{st:Tr->aw->iF}(a:∀t s,kT (st t s)):∀(l:aE) (f:Bool) (s:aw),(f->s=[])->kT (iG st l f s)
 | [],f,s,h=>λts e=>by simp only[iG,iF.ok.injEq]at e;obtain⟨rfl,rfl⟩:=e;exact h rfl
 | t::l,f,s,h=>by
  simp only[iG];split
  .exact jy 1
  .cases hk:keptF (st t s)with
   | no e=>exact jy e
   | ok d c=>exact ze a l d c (λb=>a t s c (by rw[(nP hk).1,b]))
def NP{row:aE->aw->iF}(b:∀l s,kT (row l s))(i:Ins)(s:aw):kT (vP row i s):=by
 have d:∀s x y,kT (iC row i s x y):=λs x y=>JU (b _ _) (b _ _);have e:∀x y z,kT (dM row i x y z):=λx y z=>by
  unfold dM;split
  .exact jy _
  .exact vg _ _
 have c:∀a s,kT (l7 row i a s):=λa s=>by
  unfold l7;split
  .exact jy _
  .split
   .exact jy 1
   .exact vg _ _
 unfold vP dG bO aP eG bP bJ dI cZ bF dO
 repeat' apply NQ
 all_goals first|exact vg _ _|exact jy _|exact noTys_fail|exact d _ _ _|exact e _ _ _|exact c _ _|exact NR (λT=>vg _ _)
def noTys_step:∀(N:Nat) (t:Tr) (s:aw),kT (stepF N t s)
 | 0,t,s=>jy 1
 | N+1,t,s=>by
  rw[stepF];split
  .exact ze (noTys_step N) _ _ _ oe
  .split
   .exact jy 1
   .exact NP (λl s=>ze (noTys_step N) _ _ _ oe) _ _
def slq:∀{s:aw}{ks:List Int},sFq s ks->ks.length<=s.length
 | _,[],_=>oe
 | [],_::_,h=>by simp[sFq]at h
 | T::s,k::ks,h=>by simp only[sFq,qv]at h;have:=slq h.2;simp;omega
open Go.ChangeShapes Go.WideShapes Go.ChangeAt Go.RowKit
def stand_iff:∀(s:aw) (ks:List Int),sFq s ks ↔ ks.length<=s.length/\∀i (h:i<ks.length) (a:i<s.length),ks[i]=0\/(s[i]).t=ks[i]
 | s,[]=>by cases s<;>simp[sFq]
 | [],k::ks=>by simp[sFq]
 | T::s,k::ks=>by
  have f:=stand_iff s ks;simp only[sFq,qv,qe6,jt,f,jj,Nat.add_le_add_iff_right];constructor
  .rintro⟨b,a,c⟩;refine⟨a,λi d e=>?_⟩
   cases i with
   | zero=>exact b
   | succ i=>exact c i od od
  .rintro⟨b,a⟩;exact⟨a 0 od od,b,λi d e=>a (i+1) od od⟩
def kNq{a:Addr}(b:cq w w' none)(h:w.cell? a=some v):w'.cell? a=some v:=(kd (b.block _ (qc0 w _ h) oe)).trans h
def mH(h:w.heap[b]?=some o)(a:cq w w' none):w'.heap[b]?=some o:=(a.block _ (kj.1 h).1 oe).trans h
def bCq(h:Hid (w.heap[b]?=some o))(g:cq w w' none):Hid (w'.heap[b]?=some o):=mH h g
def Ip{ks:List Int}(h:sFq s ks)(i:Nat)(k:Int)(hk:ks[i]?=some k)(h0:k≠0):(bB s i).t=k:=by
 have⟨d,b⟩:=(stand_iff s ks).1 h;have⟨c,e⟩:=qS.1 hk;have a:i<s.length:=od
 have:=b i c a;rw[e]at this;unfold bB;rw[qt a];rcases this with h|h
 .exact absurd h h0
 .exact h
def Lt(h:s.all au){i:Nat}(hi:i<s.length):au (bB s i):=by unfold bB;rw[qt hi];exact ki.1 h _ (yv hi)
def xL(h:au T):(T.args.length:Int)=bT T.t:=by have⟨t,args⟩:=T;simp only[au,j5,qv,jt]at h;exact h.1.1.1.2.2
mutual
def xJ(d:Nat):∀(T:Ty),j5 (d+1) T->j5 d T
 | .nd t args,h=>by simp only[j5,qv,jt]at h|-;exact⟨⟨od,h.1.2⟩,vX (d+1) args h.2⟩
def vX(d:Nat):∀(l:aw),ig (d+1) l->ig d l
 | [],_=>rfl
 | T::l,h=>by simp only[ig,qv]at h|-;exact⟨xJ d T h.1,vX d l h.2⟩
end
def wF{t:Int}(h:au (.nd t args)):args.all au:=by
 rw[ki];intro T a;have⟨b,d,c⟩:=dE h;simp only[j5,qv,jT,ki]at b;have e:=xJ 1 T (b.2 T a);have f:keyedF T:=by simp only[keyedF,qv,uu,ki]at c;exact c.2 T a
 have g:T.size<=300:=by have:=jS a;simp only[Ty.size]at d;omega
 simp[au,e,f,g]
def gX(h:au T):T.args.all au:=by have⟨t,args⟩:=T;exact wF h
def yV(h:au (.nd 13 args)):au (.nd 11 args):=by
 have⟨a,b,c⟩:=dE h;simp only[j5,qv,jt]at a;simp only[keyedF,qv]at c;simp only[Ty.size]at b;simp only[au,j5,keyedF,Ty.size,qv,jt];refine⟨⟨⟨⟨a.1.1,ov,?_⟩,a.2⟩,by simpa using b⟩,?_,c.2⟩
 .have:=a.1.2.2;simpa[bT]using this
 .simp[uZ]
def um{a b:aw}(c:a.all au)(hb:b.all au):(a++b).all au:=by rw[jc7,c,hb];rfl
def iI(h:s.all au)(k:Nat):(s.drop k).all au:=ki.2 λx a=>ki.1 h x (qh3 a)
def Dz(h:s.all au)(k:Nat):(s.take k).all au:=ki.2 λx a=>ki.1 h x (qe5 a)
def Kc(h:au T)(a:T.t=13):au (.nd 11 T.args):=by have⟨t,args⟩:=T;simp only[Ty.t]at a;subst a;exact yV h
open Go.ChangeShapes Go.WideShapes Go.ChangeAt Go.RowKit Pe
def dw.Vf(h:dw ok w ts a V)(c:Nat):∃vs:bo,vs.length=ts.length/\gZ w (.slice a ts.length c) ts.length (bX vs)/\(bX vs).length=ts.length*2/\(∀u∈bX vs,u.oneCell')/\∀(i:Nat) (t:Ty) (u:cm),ts[i]?=some t->vs[i]?=some u->aH ok w t u:=by
 let vs:=(List.range ts.length).map V
 have f:vs.length=ts.length:=by simp[vs]
 have n:∀i,i<ts.length->vs[i]?=some (V i):=λi g=>by simp[vs,g]
 have C:∀i,i<ts.length->∃t m l k,V i=Go.Proofs.YtnamdihclpbdfabGreat.bY t m l k:=λi g=>by have⟨_,_,_,_,t,m,l,k,D,_⟩:=h.2.1 i g;exact⟨t,m,l,k,D⟩
 have E:∀u∈vs,∃t m l k,u=Go.Proofs.YtnamdihclpbdfabGreat.bY t m l k:=λu d=>by simp only[vs,kl,List.mem_range]at d;obtain⟨i,g,rfl⟩:=d;exact C i g
 have p:∀u∈vs,(tyCells u).length=2:=λu d=>by obtain⟨t,m,l,k,rfl⟩:=E u d;rfl
 have v:∀(s:bo),(∀u∈s,(tyCells u).length=2)->(bX s).length=s.length*2:=λs=>by
  induction s with
  | nil=>intro _;rfl
  | cons x s J =>
   intro z;have K:=z x oe;have A:=J (λu d=>z u (by simp[d]));simp only[bX,qd0,ju,jj]at A|-;omega
 refine⟨vs,f,?_,by rw[v vs p,f],λu d=>?_,λi t u y d=>?_⟩
 .cases a with
  | none =>
   have B:ts.length=0:=by
    rcases Nat.eq_zero_or_pos ts.length with e|e
    .exact e
    .have⟨b,o,A⟩:=h.base e;cases A
   exact .inl ⟨c,by rw[B],B,by rw[jx (f.trans B)];rfl⟩
  | some F =>
   refine .inr ⟨F,c,rfl,λj u d=>?_⟩;have I:j<(bX vs).length:=(qS.1 d).1;rw[v vs p,f]at I;have g:j / 2<ts.length:=od
   have⟨b,o,e,_,t,m,l,k,D,G,H⟩:=h.2.1 (j / 2) g;have r:=flatT_get vs p (j / 2) (j % 2) (V (j / 2)) (n _ g) od;rw[show j / 2*2+j % 2=j from by omega,d,D]at r;simp only[qq]at e;subst e;rcases (show j % 2=0\/j % 2=1 by omega)with q|q
   .rw[q]at r;simp[tyCells,Go.Proofs.YtnamdihclpbdfabGreat.bY]at r;rw[r,<-G];rw[addr_add,show o+j=o+j / 2*2 from by omega]
   .rw[q]at r;simp[tyCells,Go.Proofs.YtnamdihclpbdfabGreat.bY]at r;rw[r,<-H];rw[addr_add,show o+j=o+j / 2*2+1 from by omega]
 .simp only[bX,qb1]at d;have⟨x,z,d⟩:=d;obtain⟨t,m,l,k,rfl⟩:=E x z;simp[tyCells,Go.Proofs.YtnamdihclpbdfabGreat.bY]at d;rcases d with rfl|rfl<;>rfl
 .have g:i<ts.length:=(qS.1 y).1;rw[n i g]at d;rw[qt g]at y;simp only[qq]at y d;subst y;subst d;exact h.2.2 i g
structure vN (ok:br) (W w:cg) (v:cm) (ts:aw) (vs:bo):Prop where
 own:OTq W.heap.size w v vs
 len:vs.length=ts.length
 lies:∀(i:Nat) (t:Ty) (u:cm),ts[i]?=some t->vs[i]?=some u->aH ok W t u
def vN.more{us:aw}(h:vN ok W w v ts vs)(e:OTq W.heap.size w' v' (vs++ns))(d:ns.length=us.length)(f:∀(i:Nat) (t:Ty) (u:cm),us[i]?=some t->ns[i]?=some u->aH ok W t u):vN ok W w' v' (ts++us) (vs++ns):=by
 refine⟨e,by simp[h.len,d],λi t u a b=>?_⟩
 by_cases c:i<ts.length
 .rw[kO c]at a;rw[kO (by rw[h.len];exact c)]at b;exact h.lies i t u a b
 .rw[zE od]at a;rw[zE (by rw[h.len];omega),h.len]at b;exact f _ t u a b
set_option maxRecDepth 100000
set_option maxHeartbeats 1000000
def Y8(w:cg)(a:bj)(n c:Nat):(binOp .eql 27 (.slice a n c) (.n0)).run prog w =.ok (.bool a.isNone) w:=by simp only[binOp];simp[Op.equal,Op.maxDepth,Lib.run_equalIn_slice_nil w 9999 27 51 a n c 0 0 underlying27]
attribute [local go_sem] Y8
structure IU (W w:cg) (v:cm) (ts:aE) (vs:bo):Prop where
 own:lh W.heap.size w v vs
 len:vs.length=ts.length
 lies:∀(i:Nat) (t:Tr) (u:cm),ts[i]?=some t->vs[i]?=some u->bI (λ_=>True) W t u
def IU.more{ts us:aE}(h:IU W w v ts vs)(e:lh W.heap.size w' v' (vs++ns))(d:ns.length=us.length)(f:∀(i:Nat) (t:Tr) (u:cm),us[i]?=some t->ns[i]?=some u->bI (λ_=>True) W t u):IU W w' v' (ts++us) (vs++ns):=by
 refine⟨e,by simp[h.len,d],λi t u a b=>?_⟩
 by_cases c:i<ts.length
 .rw[kO c]at a;rw[kO (by rw[h.len];exact c)]at b;exact h.lies i t u a b
 .rw[zE od]at a;rw[zE (by rw[h.len];omega),h.len]at b;exact f _ t u a b
def Ei: ∀{l:aE},t∈l->t.size<=sizes l
 | x::l,h=>by
  simp only[sizes];rcases ke.1 h with rfl|h
  .omega
  .have:=Ei h;omega
def cK.Zk{ts:aE}(h:cK ok w ts a V)(c:Nat):∃vs:bo,vs.length=ts.length/\gZ w (.slice a ts.length c) ts.length (flat vs)/\(flat vs).length=ts.length*5/\(∀u∈flat vs,u.oneCell')/\∀(i:Nat) (t:Tr) (u:cm),ts[i]?=some t->vs[i]?=some u->bI ok w t u:=by
 let vs:=(List.range ts.length).map V
 have g:vs.length=ts.length:=by simp[vs]
 have y:∀i,i<ts.length->vs[i]?=some (V i):=λi m=>by simp[vs,m]
 have F:∀i,i<ts.length->∃k n p s r l v,V i=af k n p s r l v:=λi m=>by have⟨_,_,_,_,k,n,p,s,r,l,v,G,_⟩:=h.2.1 i m;exact⟨k,n,p,s,r,l,v,G⟩
 have H:∀u∈vs,∃k n p s r l v,u=af k n p s r l v:=λu d=>by simp only[vs,kl,List.mem_range]at d;obtain⟨i,m,rfl⟩:=d;exact F i m
 have z:∀u∈vs,(nodeCells u).length=5:=λu d=>by obtain⟨k,n,p,s,r,l,v,rfl⟩:=H u d;rfl
 have B:∀(A:bo),(∀u∈A,(nodeCells u).length=5)->(flat A).length=A.length*5:=λA=>by
  induction A with
  | nil=>intro _;rfl
  | cons x A P =>
   intro D;have Q:=D x oe;have E:=P (λu d=>D u (by simp[d]));simp only[flat,qd0,ju,jj]at E|-;omega
 refine⟨vs,g,?_,by rw[B vs z,g],λu d=>?_,λi t u C d=>?_⟩
 .cases a with
  | none =>
   have h0:ts.length=0:=by
    rcases Nat.eq_zero_or_pos ts.length with e|e
    .exact e
    .have⟨b,o,E,_⟩:=h.2.1 0 e;cases E
   exact .inl ⟨c,by rw[h0],h0,by rw[jx (g.trans h0)];rfl⟩
  | some I =>
   refine .inr ⟨I,c,rfl,λj u d=>?_⟩;have O:j<(flat vs).length:=(qS.1 d).1;rw[B vs z,g]at O;have m:j / 5<ts.length:=od
   have⟨b,o,e,_,k,n,p,s,r,l,v,G,J,K,L,M,N⟩:=h.2.1 (j / 5) m;have f:=flat_get vs z (j / 5) (j % 5) (V (j / 5)) (y _ m) od;rw[show j / 5*5+j % 5=j from by omega,d,G]at f;simp only[qq]at e;subst e;rw[addr_add];rcases (show j % 5=0\/j % 5=1\/j % 5=2\/j % 5=3\/j % 5=4 by omega)with q|q|q|q|q
   .rw[q]at f;simp[nodeCells,af]at f;rw[f,<-J,show o+j=o+j / 5*5 from by omega]
   .rw[q]at f;simp[nodeCells,af]at f;rw[f,<-K,show o+j=o+j / 5*5+1 from by omega]
   .rw[q]at f;simp[nodeCells,af]at f;rw[f,<-L,show o+j=o+j / 5*5+2 from by omega]
   .rw[q]at f;simp[nodeCells,af]at f;rw[f,<-M,show o+j=o+j / 5*5+3 from by omega]
   .rw[q]at f;simp[nodeCells,af]at f;rw[f,<-N,show o+j=o+j / 5*5+4 from by omega]
 .simp only[flat,qb1]at d;have⟨x,D,d⟩:=d;obtain⟨k,n,p,s,r,l,v,rfl⟩:=H x D;simp[nodeCells,af]at d;rcases d with rfl|rfl|rfl|rfl|rfl<;>rfl
 .have m:i<ts.length:=(qS.1 C).1;rw[y i m]at d;rw[qt m]at C;simp only[qq]at C d;subst C;subst d;exact h.2.2 i m
def XX (W:cg) (l:aE) (e:Ending) (w':cg):Prop:=∃v us,e =.returned v/\IU W w' v l us/\cq W w' none
def Jl{c:Nat}(h:cK (λ_=>True) W l a V)(hn:l.length<=20000000):Calls prog 133 #[.slice a l.length c] W (XX W l):=by
 have⟨m,p,n,s,v,q⟩:=h.Zk c
 cases a with
 | none =>
  have B:l=[]:=by
   cases l with
   | nil=>rfl
   | cons t l=>have⟨b,o,e,_⟩:=h.2.1 0 oe;cases e
  subst B;have z:Hid (XX W [] (.returned (.n0)) W):=⟨_,[],rfl,⟨jd4 _ _ _ _,rfl,λi x u h=>by simp at h⟩,bf _ _⟩;clear h n p q s v;go_enter func133,ntmps133;go_wp2;go_ret;exact z.out
 | some C =>
  have d:=aK (w:=W) (.cells #[] 51);have HB:=jh (xF W (.cells #[] 51));have g:Hid (IU W (W.alloc (.cells #[] 51)) (.o (W.heap.size) 0 0) [] []):=⟨⟨rfl,.inr ⟨W.heap.size,0,#[],rfl,jn _,HB.out,jn _,yb _,rfl,rfl⟩⟩,rfl,λi x u h=>by simp at h⟩;have⟨A,r,k⟩:=JT (n.grow d) d q;clear h n q d;go_enter func133,ntmps133;go_wp2_with (at_builtin;refine ed rfl _ _ 27 rfl W.heap.size 51 underlying27 JD rfl ov _ ([]:bo).length (flat []) rfl g.out.own _ l.length (flat m) rfl s A.out v vj (by simp only[qa0];omega) r.out.size ?_;intro v' w' y d _;have f:=jh (dX r.out g.out.own (jn _) d.1);have j:=jh (g.out.more (v':=v') (w':=w') (us:=l) (ns:=m) (by unfold lh;rw[bV,ju,p];exact y) p k.out);clear y d);go_ret;exact⟨_,_,rfl,by simpa using j.out,f.out⟩
def IU.slice{ts:aE}(h:IU W w v ts vs):∃a c,v =.slice a ts.length c:=by
 rcases h.own.2 with⟨rfl,h0⟩|⟨g,b,d,rfl,_⟩
 .exact⟨none,0,by rw[<-h.len,h0]⟩
 .exact⟨_,b,by rw[h.len]⟩
def Dv(k n p:Int)(s:bp)(a:bj)(l c:Nat)(a':bj)(d b:Nat):∀(us:bo),(∀u∈us,(nodeCells u).length=5)->∀i,us[i]?=some (af k n p s a l c)->flat (us.set i (af k n p s a' d b))=(flat us).set (i*5+4) (.slice a' d b)
 | [],_,i,h=>by simp at h
 | x::us,e,0,h=>by simp only[km,qq]at h;subst h;rfl
 | x::us,e,i+1,h=>by have g:=e x oe;have j:=Dv k n p s a l c a' d b us (λu f=>e u (by simp[f])) i (by simpa using h);rw[xT,show flat (x::us.set i (af k n p s a' d b))=nodeCells x++flat (us.set i (af k n p s a' d b)) from rfl,j,show flat (x::us)=nodeCells x++flat us from rfl,jf1 _ _ od,g,show (i+1)*5+4 - 5=i*5+4 by omega]
def Sv (W:cg) (l:aE) (e:Ending) (w':cg):Prop:=∃a c V,e =.returned (.slice a l.length c)/\l.length<=c/\cK (W.heap.size <= ·) w' l a V/\cq W w' none
structure Wu (W w:cg) (g cap:Nat) (l:aE) (j:Nat) (us:bo):Prop where
 own:lh W.heap.size w (.o g l.length cap) us
 len:us.length=l.length
 done:∀(i:Nat) (x:Tr) (u:cm),l[i]?=some x->us[i]?=some u->i<j->bI (λb=>W.heap.size<=b/\b≠g) w x u
 rest:∀(i:Nat) (x:Tr) (u:cm),l[i]?=some x->us[i]?=some u->j<=i->bI (λ_=>True) W x u
 gr:cq W w none
def Gn{g cap:Nat}{us:bo}(h:Wu W w g cap l l.length us)(hm:l.length<=maxLen):Sv W l (.returned (.o g l.length cap)) w:=by have m:kQ W.heap.size w (.o g l.length cap) l us:=⟨h.own,h.len,λi x u f n=>(h.done i x u f n (qS.1 f).1).ae λb _ d=>⟨d.1,by simp[Value.ownBlock];exact d.2⟩⟩;have⟨a,c,V,e,j,k⟩:=m.done;exact⟨a,c,V,by rw[e],qP h.own e,⟨hm,j,k⟩,h.gr⟩
def copiedN_any:∀(N:Nat) {W:cg}{l:aE}{a:bj}{c:Nat}{V:bt},sizes l<N->N<=20000000->cK (λ_=>True) W l a V->Calls prog 153 #[.slice a l.length c] W (Sv W l):=λN=>by
 induction N with
 | zero=>intro W l a c V Z;exact absurd Z (Nat.not_lt_zero _)
 | succ N ih =>
  intro W l a c V Z bn h;have bc:l.length<=sizes l:=cB l;have HC:=jh (Jl (c:=c) h od);have ah:Hid (∀{W:cg} {l:aE} {a:bj} {c:Nat} {V:bt},sizes l<N->cK (λ_=>True) W l a V->Calls prog 153 #[.slice a l.length c] W (Sv W l)):=λh1 L=>ih h1 od L;have HN:=jh Z;have bx:(l.length:Int)<=20000000:=od
  have ak:Hid (l.length<=maxLen):=h.1;clear h ih Z bc;go_enter func153,ntmps153;go_wp2_with ((go_at_call 133;(with_reducible refine HC.out.mono ?_);rintro e w1 ⟨v,G,rfl,hK,hg⟩;obtain⟨a2,c2,rfl⟩:=hK.slice;have U:=jh hK;have HG:=jh hg;clear hg hK));have d:=U.out.own;have R:=U.out.len;rcases d.2 with⟨K,h0⟩|⟨g,bk,bm,K,p,hq,hc⟩
  .simp only[ye]at K;obtain⟨rfl,z,rfl⟩:=K;clear z;have m:G=[]:=jx h0;subst m;have bb:l=[]:=jx (by simpa using R.symm);subst bb;clear d R h0;simp only[qa0];refine wp_loop_rounds 1 ?_;rw[rounds_succ];go_wp2;go_ret;exact⟨none,0,λ_=>.i 0,rfl,jn _,cK.nil _ _ _ _,HG⟩
  .simp only[ye]at K;obtain⟨rfl,z,rfl⟩:=K;clear z;have HB:=jh p;have ad:Hid (Wu W w1 g c2 l 0 G):=⟨d,R,λi x u _ _ h=>od,λi x u t m _=>U.lies i x u t m,HG⟩;have HL:=jh R;clear d hq hc p R U;go_loopw [8] (λiv wr=>∃(j:Nat) (G:bo),j<=l.length/\iv =.i j/\Wu W wr g c2 l j G) (λiv _=>l.length - (intOf iv).toNat)
   case atStart=>exact⟨0,G,yb _,rfl,ad⟩
   case round =>
    obtain⟨j,vs,hj,rfl,k⟩:=hrel
    by_cases f:j<l.length
    .have C:j<vs.length:=by rw[k.len];exact f
     have A:=k.rest j l[j] vs[j] (qt f) (qt C) (jn _);have n:=yv f;have E:=qt f;generalize l[j]=x at A n E;have⟨xk,xn,xp,xs,az⟩:=x;have⟨X,J,Vj,ev,it,B⟩:=A.yX;simp only[Tr.k0,Tr.n0,Tr.p0,Tr.s0,Tr.args0]at ev it B;have D:vs[j]?=some (af xk xn xp xs X az.length J):=by rw[qt C,ev]
     have L:∀u∈vs,(nodeCells u).length=5:=λu m=>by
      obtain⟨i,P,rfl⟩:=qc3 m;have Q:i<l.length:=by rw[<-k.len];exact P
      by_cases aO:i<j
      .have⟨_,_,_,e,_⟩:=(k.done i l[i] vs[i] (qt Q) (qt P) aO).yX;rw[e];rfl
      .have⟨_,_,_,e,_⟩:=(k.rest i l[i] vs[i] (qt Q) (qt P) od).yX;rw[e];rfl
     have d:lh W.heap.size wr (.o g vs.length c2) vs:=by rw[k.len];exact k.own
     have bq:g<wr.heap.size:=(qb5 d g rfl).2;have cc:wr.cell? ⟨g,j*5+4,none⟩=some (.slice X az.length J):=by have:=qd4 d (g:=g) rfl (j*5+4) (.slice X az.length J) (by rw[flat_get vs L j 4 _ D od];rfl);rw[gI,qb4]at this;exact this
     have aq:Hid (sizes az<N):=by have h1:=Ei n;have Y:=HN.out;exact (by simp only[Tr.size]at h1;omega:sizes az<N)
     have H:=jh (ah (c:=J) aq ((B.ae (λ_ _ _=>trivial)).same (sAl k.gr)));have d1:(j:Int)<(l.length:Int):=od
     have d2:(j:Int)<(G.length:Int):=by rw[HL.out];exact d1
     have⟨HI,I,ar,H2,ax,q⟩:=wg k d D L E it;have aa:Hid (W.heap.size<=g):=HB.out;clear k d D L E it B n A;go_wp2_with ((go_at_call 153;(with_reducible refine H.out.mono ?_);rintro e T ⟨y,F,V3,rfl,O,M,r⟩;have bl:=kNq r cc;have fz:=jc0 (qd3 I.out r (.inr Of)) (j*5+4);have an:=jh M;have ab:=jh O;have w:=jh r;clear M r O H));go_roundw
     case rel =>
      have s:cq T (T.setCell ⟨g,j*5+4,none⟩ (.slice y az.length F)) (some g):=eF (bf _ _) _ _ _;have S:Same (λb=>b≠g) T (T.setCell ⟨g,j*5+4,none⟩ (.slice y az.length F)):=λb o p f=>kd (s.block b f (by simpa using p));have k:=HI.out;have aC:=aa.out;have bh:=qd3 I w (.inr Of);refine⟨j+1,vs.set j (af xk xn xp xs y az.length F),od,by go_num,⟨?_,by simp[k.len],λi x u t m P=>?_,λi x u t m P=>?_,aG (aJ k.gr w) s aC⟩⟩
      .unfold lh;have:=(bh.stored (j*5+4) (.slice y az.length F)).1;rw[je0,Dv xk xn xp xs X az.length J y az.length F vs H2.out j ar.out,<-k.len];exact this
      .by_cases e:i=j
       .subst e;rw[ax.out]at t;simp only[qq]at t;subst t;rw[ja6 C]at m;simp only[qq]at m;subst m;have Y:cK (λb=>W.heap.size<=b/\b≠g) (T.setCell ⟨g,i*5+4,none⟩ (.slice y az.length F)) az y V3:=(an.out.ae (λb _ p=>⟨xo k.gr.size p,od⟩)).same (λb o p f=>S b o p.2 f);exact bI.mk (hk:=ab.out) V3 Y.1 q.2.2.2 q.1 q.2.1 q.2.2.1 Y.2.1 Y.2.2
       .rw[qf2 od]at m;exact ((k.done i x u t m od).same (λb o _ f=>sAl w b o trivial f)).same (λb o p f=>S b o p.2 f)
      .rw[qf2 od]at m;exact k.rest i x u t m od
     case measure=>simp[intOf];omega
    .have ba:j=l.length:=by omega
     subst ba;have d1:¬(l.length:Int)<(l.length:Int):=od
     have HE:=jh (Gn k ak);clear k;go_wp2;go_ret;have h:=HE.out
     first|exact h|(rw[<-HL.out]at h;exact h)
open Pe
set_option maxHeartbeats 4000000
structure Ac where
 is:Int
 ji:Int
 cnt:Int
 pt:Int
 pa:aw
 st:Int
 sa:aw
 co:aE
 k:Int
 n:Int
 a:Int
 s:bp
 az:ao
 ty:aw
 cd:aE
def R5 (A:Ac):List X:=[.d (.v (.i A.is)),.d (.v (.i A.ji)),.d (.v (.i A.cnt)),.d (.v (.i A.pt)),.d (.s 2 (tysD A.pa)),.d (.v (.i A.st)),.d (.s 2 (tysD A.sa)),.d (.s 5 (ndsD A.co)),
 .d (.v (.i A.k)),.d (.v (.i A.n)),.d (.v (.i A.a)),.d (.v (.string A.s)),.d (.s 7 (vasD A.az)),.d (.s 2 (tysD A.ty)),.d (.s 5 (ndsD A.cd))]
def UI (A:Ac):A1:=.agg (R5 A)
abbrev Lg:=Nat->Ac
def asX (L:Lg):List X:=R5 (L 0)++(R5 (L 1)++(R5 (L 2)++(R5 (L 3)++(R5 (L 4)++(R5 (L 5)++(R5 (L 6)++(R5 (L 7)++(R5 (L 8)++(R5 (L 9)++(R5 (L 10)++R5 (L 11)))))))))))
def Tp (L:Lg) (f:Int):List X:=asX L++[.d (.v (.i f))]
def lC (L:Lg) (f:Int):A1:=.agg (Tp L f)
def ll (n:Int):Bool:=decide (0<=n/\n<=4000000)
def rf (n:Int):Bool:=decide (0<=n/\n<=1152921504606846976)
def ou (L:Lg) (n:Int):Bool:=decide (0<=n/\n<12) && !decide ((L n.toNat).is=0)
def Og(n:Int):Hd ⟨77,[iA n],aQ (ll n)⟩:=by
 by_cases h:0<=n
 .rw[show ll n=decide (n<=4000000) by simp[ll,h]];exact runT func77 [(4,bA true)] [] (al (is_le h) al0)
 .rw[show ll n=false by simp[ll,h]];exact runT func77 [(4,bA false)] [] (al (QA h) al0)
def aa7(n:Int):Hd ⟨80,[iA n],aQ (rf n)⟩:=by
 by_cases h:0<=n
 .rw[show rf n=decide (n<=1152921504606846976) by simp[rf,h]];exact runT func80 [(4,bA true)] [] (al (is_le h) al0)
 .rw[show rf n=false by simp[rf,h]];exact runT func80 [(4,bA false)] [] (al (QA h) al0)
def twelve(a:0<=n)(h:n<12):n=0\/n=1\/n=2\/n=3\/n=4\/n=5\/n=6\/n=7\/n=8\/n=9\/n=10\/n=11:=od
def U8(L:Lg)(f n:Int):Hd ⟨110,[lC L f,iA n],aQ (ou L n)⟩:=by
 by_cases a:0<=n
 .by_cases h:n<12
  .rcases twelve a h with rfl|rfl|rfl|rfl|rfl|rfl|rfl|rfl|rfl|rfl|rfl|rfl<;>exact aF func110 []
  .rw[show ou L n=false by simp[ou,h]];exact runT func110 [(6,bA true),(9,bA false)] [] (al (is_le a) (al (wH h) al0))
 .rw[show ou L n=false by simp[ou,a]];exact runT func110 [(6,bA false)] [] (al (QA a) al0)
set_option maxHeartbeats 40000000
def bu (L:Lg):Nat->Int
 | 0=>0
 | n+1=>bu L n+(L n).ji
def qX (L:Lg):Prop:=∀i,i<12->0<=(L i).ji/\(L i).ji<=4000000
def FL{L:Lg}(h:qX L):∀n,n<=12->0<=bu L n/\bu L n<=n*4000000
 | 0,_=>by simp[bu]
 | n+1,c=>by have a:=FL h n od;have b:=h n od;simp only[bu];omega
def bM{n:Nat}(h:n<12):n=0\/n=1\/n=2\/n=3\/n=4\/n=5\/n=6\/n=7\/n=8\/n=9\/n=10\/n=11:=od
def Uu (L:Lg) (f:Int):Nat->Int
 | 0=>f
 | n+1=>IntKind.i64.wrap (Uu L f n+(L n).ji)
def Q4{L:Lg}(h:qX L)(c:0<=f)(d:f<=4000000):∀n,n<=12->Uu L f n=f+bu L n
 | 0,_=>by simp[Uu,bu]
 | n+1,e=>by have a:=FL h n od;have b:=h n od;simp only[Uu,bu];rw[Q4 h c d n od,zF (b:=f+bu L n+(L n).ji) rfl od od];omega
abbrev suL (S:St) (ex:Nat) (q:St):Prop:=vO prog f78.ntmps ⟨gF f78,S,ex,q⟩
def suS (L:Lg) (f:Int) (j:Nat):St:=[((0,3),lW (Uu L f j)),((0,9),.of (.agg (asX L))),((0,10),.of (jA j))]
def abN{L:Lg}{f:Int} : ∀(d j:Nat),j+d=12->suL (suS L f j) 2 [((0,3),lW (Uu L f 12))]
 | 0,j,e=>by
  have : j=12:=od
  subst this;exact xQ (e:=1) [] [] al0
 | d+1,j,e=>by
  have a:=abN (L:=L) (f:=f) d (j+1) od;rcases bM (show j<12 by omega)with rfl|rfl|rfl|rfl|rfl|rfl|rfl|rfl|rfl|rfl|rfl|rfl
  all_goals exact LG [] [] a al0
def abb{L:Lg}(h:qX L)(b:0<=f)(c:f<=4000000):Hd ⟨78,[lC L f],.of (iA (f+bu L 12))⟩:=by rw[<-Q4 h b c 12 (jn _)];have d:=abN (L:=L) (f:=f) 12 0 rfl;have e:=wI (S:=suS L f 0) (q:=gF f78=gF f78) rfl (ps:=[]) al0;exact Ce func78 [] [_] (λx a=>by rw[qu]at a;subst a;exact d) [] e
structure lI where
 kind:Int
 dst:Int
 lG:Int
 arg:Tr
 p:Tr
 s:Tr
 code:Tr
inductive Rq where
 | op (f:Int) (o:lI)
 | told (f:Int) (v:Va)
def Rq.fr:Rq->Int
 | .op f _=>f
 | .told f _=>f
def Rq.dst:Rq->Int
 | .op _ o=>o.dst
 | .told _ v=>v.a
def Rq.lG:Rq->Int
 | .op _ o=>o.lG
 | .told _ v=>v.n
structure Wk where
 L:Lg
 fe:Int
 src:Int
 aC:Int
 done:Int
 paid:Int
 Ze:Int
 made:List Int
def wO (o:lI):bd:=[.v (.i o.kind),.v (.i o.dst),.v (.i o.lG)]++(ndD o.arg++(ndD o.p++(ndD o.s++ndD o.code)))
def nilD:D:=.v (.pointer none)
def rqD:Rq->bd
 | .op f o=>[.v (.i f),.e (wO o),nilD]
 | .told f v=>[.v (.i f),nilD,.e (vaD v)]
def Y1 (r:Rq):A1:=.agg ((rqD r).map .d)
def kH (l:List Rq):List bd:=l.map rqD
def mg(l:List Rq):(kH l).length=l.length:=by simp[kH]
def mkD (l:List Int):List bd:=l.map λn=>[.v (.i n)]
inductive Md where
 | no
 | ls (j:Nat) (es:List (List D))
def mdOf:List Int->Md
 | []=>.no
 | x::l=>.ls (l.length+1) (mkD (x::l))
def mdX (k:Nat):Md->X
 | .no=>.d (.s 0 [])
 | .ls j _=>.g k 1 j
def mdL (k:Nat):Md->List (Nat×AV)
 | .no=>[]
 | .ls _ es=>[(k,.kv 3 1 es)]
def bxX (k:Nat) (L:Lg) (f s g d p m:Int) (md:Md):List X:=Tp L f++[.d (.v (.i s)),.d (.v (.i g)),.d (.v (.i 0)),.d (.v (.i d)),.d (.v (.i p)),.d (.v (.i m)),mdX k md]
def dW (k:Nat) (L:Lg) (f s g d p m:Int) (md:Md):Hp:=⟨[(818800,bxX k L f s g d p m md)],mdL k md⟩
def WE (b k:Nat) (L:Lg) (f s g d p m:Int) (md:Md):St:=oC b 0 (bxX k L f s g d p m md)++(mdL k md).map λe=>((e.1+1,0),e.2)
def wP (o:Nat):A1:=.one (.p 818800 o)
def I4 (k:Nat) (W:Wk):Hp:=dW k W.L W.fe W.src W.aC W.done W.paid W.Ze (mdOf W.made)
def vU (L:Lg) (i:Nat) (A:Ac):Lg:=λj=>if j=i then A else L j
def NY (L:Lg) (i:Nat) (x:Va):Lg:=λj=>if j=i then { L j with k:=x.k,n:=x.n,a:=x.a,s:=x.s,az:=x.args,ty:=x.types,cd:=x.code } else L j
def ib (L:Lg):Nat->Nat->Nat
 | 0,j=>j
 | d+1,j=>if (L j).is=0 then j else ib L d (j+1)
def qO (A:Ac):Ty:=if A.is=1 then .nd 1 []else .nd A.pt A.pa
structure Bt where
 src:Int
 cnt:Int
 eD:Int
 aC:Int
 ops:List lI
structure Rc where
 code:Int
 done:Int
 aC:Int
 Ze:Int
 made:List Int
def p8 (L:Lg) (n:Int):Bool:=decide (0<=n/\n<12)&&decide ((L n.toNat).is=1)
def jo (L:Lg) (b:Bt):Lg:=λj=>if j=b.src.toNat then { L j with ji:=(L j).ji - b.eD,cnt:=b.cnt } else L j
def btA (b:Bt):A1:=.agg [.d (.v (.i b.src)),.d (.v (.i b.cnt)),.d (.v (.i b.eD)),.d (.v (.i b.aC)),.d (.s 23 (b.ops.map wO))]
def Me (r:Rc):List X:=[.d (.v (.i r.code)),.d (.v (.i r.done)),.d (.v (.i r.aC)),.d (.v (.i r.Ze)),.d (.s 1 (mkD r.made))]
def Qt (p:Bool):bd:=[.v (.i (if p then 1 else 0)),.v (.i (if p then 1000000 else 0)),.v (.i 0),.v (.i 0),.s 0 [],.v (.i 0),.s 0 [],.s 0 [],.v (.i 0),.v (.i 0),.v (.i 0),.v (.string ⟨#[]⟩),.s 0 [],.s 0 [],.s 0 []]
def AB (p:Bool):Ac:=⟨if p then 1 else 0,if p then 1000000 else 0,0,0,[],0,[],[],0,0,0,⟨#[]⟩,[],[],[]⟩
def newL:Lg:=λi=>AB (decide (i<4))
def ZQ (j:Nat):bd:=Qt (decide (0<j))++(Qt (decide (1<j))++(Qt (decide (2<j))++(Qt (decide (3<j))++(Qt false++(Qt false++(Qt false++(Qt false++(Qt false++(Qt false++(Qt false++(Qt false++[.v (.i 0)])))))))))))
abbrev nwL (S:St) (ex:Nat) (q:St):Prop:=vO prog f20.ntmps ⟨gF f20,S,ex,q⟩
def nwS (j:Nat):St:=[((0,0),.of (.one (.p 0 0))),((0,1),.of (.one (.p 1 0))),((0,3),.of (jA j))]++oC 0 0 ((ZQ 0).map .d)++oC 1 0 ((ZQ j).map .d)
def nwQ:St:=[((0,0),.of (.one (.p 0 0))),((0,1),.of (.one (.p 1 0)))]++oC 0 0 ((ZQ 0).map .d)++oC 1 0 ((ZQ 4).map .d)
def nw_go:nwL (nwS 0) 2 nwQ:=by have d:nwL (nwS 4) 2 nwQ:=xQ (e:=1) [] [] al0;have c:nwL (nwS 3) 2 nwQ:=LG [] [] d al0;have b:nwL (nwS 2) 2 nwQ:=LG [] [] c al0;have a:nwL (nwS 1) 2 nwQ:=LG [] [] b al0;exact LG [] [] a al0
def lF{α β:Type}{R:α->β->Prop} : ∀{a:List α}{b:List β}{c:List α}{d:List β},L2 R a b->L2 R c d->L2 R (a++c) (b++d)
 | [],[],_,_,_,h=>h
 | _::_,_::_,_,_,⟨x,y⟩,h=>⟨x,lF y h⟩
def QN: ∀{xs ys:bd}{us:bo},L2 Ja xs ys->dU (jm β ok w) (xs.map .d) us->dU (jm β ok w) (ys.map .d) us
 | [],[],_,_,h=>h
 | _::_,_::_,_::_,⟨a,b⟩,⟨c,d⟩=>⟨Bv a c,QN b d⟩
def aam{xs ys:bd}(h:L2 Ja xs ys):gm β ok w (.agg (xs.map .d)) v->gm β ok w (.agg (ys.map .d)) v:=λ⟨b,e,a⟩=>⟨b,e,QN h a⟩
def R3 (A:Ac):bd:=[.v (.i A.is),.v (.i A.ji),.v (.i A.cnt),.v (.i A.pt),.s 2 (tysD A.pa),.v (.i A.st),.s 2 (tysD A.sa),.s 5 (ndsD A.co),.v (.i A.k),.v (.i A.n),.v (.i A.a),.v (.string A.s),.s 7 (vasD A.az),.s 2 (tysD A.ty),.s 5 (ndsD A.cd)]
def rX(p:Bool):L2 Ja (Qt p) (R3 (AB p)):=by have z:∀n,n≠0->Ja (.s 0 []) (.s n []):=λn h=>.inr ⟨rfl,n,h,rfl⟩;exact⟨.inl rfl,.inl rfl,.inl rfl,.inl rfl,z 2 ov,.inl rfl,z 2 ov,z 5 ov,.inl rfl,.inl rfl,.inl rfl,.inl rfl,z 7 ov,z 2 ov,z 5 ov,trivial⟩
def lgD (L:Lg) (f:Int):bd:=R3 (L 0)++(R3 (L 1)++(R3 (L 2)++(R3 (L 3)++(R3 (L 4)++(R3 (L 5)++(R3 (L 6)++(R3 (L 7)++(R3 (L 8)++(R3 (L 9)++(R3 (L 10)++(R3 (L 11)++[.v (.i f)])))))))))))
def adQ(L:Lg)(f:Int):lC L f =.agg ((lgD L f).map .d):=rfl
def H_new:Hd ⟨20,[],.of (lC newL 0)⟩:=by
 have b:=nw_go;have e:=wI (S:=nwS 0) (q:=gF f20=gF f20) rfl (ps:=[]) al0;have h:Hd ⟨20,[],.of (.agg ((ZQ 4).map .d))⟩:=Ce func20 [] [_] (λx a=>by rw[qu]at a;subst a;exact b) [] e;refine h.conv (λ_ _ _ h=>h) (λok w v c=>?_)
 rw[adQ];exact aam (lF (rX true) (lF (rX true) (lF (rX true) (lF (rX true) (lF (rX false) (lF (rX false) (lF (rX false) (lF (rX false) (lF (rX false) (lF (rX false) (lF (rX false) (lF (rX false) (show L2 Ja [D.v (.i 0)] [D.v (.i 0)] from ⟨.inl rfl,trivial⟩))))))))))))) c
def ab3(L:Lg)(f n:Int):Hd ⟨37,[lC L f,iA n],aQ (p8 L n)⟩:=by
 by_cases a:0<=n
 .by_cases h:n<12
  .rcases twelve a h with rfl|rfl|rfl|rfl|rfl|rfl|rfl|rfl|rfl|rfl|rfl|rfl<;>exact aF func37 []
  .rw[show p8 L n=false by simp[p8,h]];exact runT func37 [(6,bA true),(9,bA false)] [] (al (is_le a) (al (wH h) al0))
 .rw[show p8 L n=false by simp[p8,a]];exact runT func37 [(6,bA false)] [] (al (QA a) al0)
def Vx(r:Rq):Hd ⟨97,[Y1 r],.rz [iA r.dst,iA r.lG]⟩:=by
 cases r with
 | op f o=>have⟨k,d,a,⟨_,_,_,_,_⟩,⟨_,_,_,_,_⟩,⟨_,_,_,_,_⟩,⟨_,_,_,_,_⟩⟩:=o;exact aF func97 []
 | told f v=>have⟨k,n,a,s,z,t,c⟩:=v;exact aF func97 []
def Ac.par (A:Ac):Ty:=.nd A.pt A.pa
def Ac.oh (A:Ac):Ty:=.nd A.st A.sa
def Ac.val (A:Ac):Va:=.mk A.k A.n A.a A.s A.az A.ty A.cd
def CJ (A:Ac):Bool:=decide (A.co.length=0)&&sameT A.par (.nd 0 [])&&sameT A.oh (.nd 0 [])&&decide (qg uL A.val zeroVa=0)
def zT0:A1:=.agg [.d (.v (.i 0)),.d (.s 0 [])]
def zV0:A1:=.agg [.d (.v (.i 0)),.d (.v (.i 0)),.d (.v (.i 0)),.d (.v (.string ⟨#[]⟩)),.d (.s 0 []),.d (.s 0 []),.d (.s 0 [])]
def Jw(f:T.size<=50000000):Hd ⟨52,[tyA T,zT0],aQ (sameT T (.nd 0 []))⟩ :=
 (BR (U:=.nd 0 []) f).conv (λok w vs h=>by
  match vs,h with
  | [a,b],⟨c,⟨j,e,d⟩,_⟩ =>
   match j,d with
   | [x,y],⟨g,i,_⟩=>exact⟨c,⟨_,e,g,gG i,trivial⟩,trivial⟩) (λ_ _ _ h=>h)
def Vu{x:Va}(f:okV x)(g:x.size<=20000000):Hd ⟨40,[pF x,zV0],aQ (decide (qg uL x zeroVa=0))⟩ :=
 (Te (y:=zeroVa) f (by simp[zeroVa,okV,okVs,okTs,okNs,bD,maxLen,ByteArray.size]) g).conv (λok w vs h=>by
  match vs,h with
  | [a,b],⟨c,⟨p,e,d⟩,_⟩ =>
   match p,d with
   | [q,r,s,t,u,v,z],⟨i,j,k,l,m,n,o,_⟩=>exact⟨c,⟨_,e,i,j,k,l,gG m,gG n,gG o,trivial⟩,trivial⟩) (λ_ _ _ h=>h)
def abV{A:Ac}(h:A.par.size<=50000000)(i:A.oh.size<=50000000)(j:okV A.val)(k:A.val.size<=20000000):Hd ⟨79,[UI A],aQ (CJ A)⟩:=by
 have b:=Jw h;have f:=Jw i;have g:=Vu j k;unfold CJ;have a:jJ (decide (((ndsD A.co).length:Int)=0)) (decide (A.co.length=0)):=eT (by rw[Hf,qh7];omega)
 cases c:decide (A.co.length=0)with
 | false=>rw[c]at a;exact runT func79 [(6,bA false)] [] (al a al0)
 | true =>
  rw[c]at a
  cases d:sameT A.par (.nd 0 [])with
  | false=>rw[d]at b;exact runT func79 [(6,bA true)] [⟨_,b⟩] (al a al0)
  | true =>
   rw[d]at b
   cases e:sameT A.oh (.nd 0 [])with
   | false=>rw[e]at f;exact runT func79 [(6,bA true)] [⟨_,b⟩,⟨_,f⟩] (al a al0)
   | true=>rw[e]at f;exact runT func79 [(6,bA true)] [⟨_,b⟩,⟨_,f⟩,⟨_,g⟩] (al a al0)
def UN (L:Lg):Nat->Nat->Bool
 | 0,_=>true
 | d+1,j=>ll (L j).ji&&UN L d (j+1)
def QX{L:Lg} : ∀d j,UN L d j->∀i,j<=i->i<j+d->ll (L i).ji
 | 0,j,_,i,a,b=>od
 | d+1,j,h,i,a,b=>by
  simp only[UN,qv]at h
  by_cases e:i=j
  .rw[e];exact h.1
  .exact QX d (j+1) h.2 i od od
def zo (L:Lg) (f:Int):Bool:=ll f&&UN L 12 0&&decide (f+bu L 12=4000000)
abbrev cvL (S:St) (ex:Nat) (q:St):Prop:=vO prog f54.ntmps ⟨gF f54,S,ex,q⟩
def cvX (L:Lg) (f:Int):St:=((0,1),.of (.one (.p 1 0)))::oC 1 0 (Tp L f)
def cvS (L:Lg) (f:Int) (j:Nat):St:=[((0,10),.of (.agg (asX L))),((0,11),.of (jA j))]++cvX L f
def abp{L:Lg}{f:Int} : ∀(d j:Nat),j+d=12->(UN L d j->cvL (cvS L f j) 2 (cvX L f))/\(UN L d j=false->cvL (cvS L f j) 1 [((0,2),aQ false)])
 | 0,j,e=>by
  have : j=12:=od
  subst this;exact⟨λ_=>xQ (e:=1) [] [] al0,λh=>by simp[UN]at h⟩
 | d+1,j,e=>by
  have b:=abp (L:=L) (f:=f) d (j+1) od;have a:=Og (L j).ji;simp only[UN]
  cases c:ll (L j).ji with
  | false =>
   rw[c]at a;refine⟨λh=>by simp at h,λ_=>?_⟩;rcases bM (show j<12 by omega)with rfl|rfl|rfl|rfl|rfl|rfl|rfl|rfl|rfl|rfl|rfl|rfl
   all_goals exact xQ (e:=0) [] [⟨_,a⟩] al0
  | true =>
   rw[c]at a;rw[qa3];have F:∀{ex:Nat} {q:St},cvL (cvS L f (j+1)) ex q->cvL (cvS L f j) ex q:=λh=>by
    clear b;rcases bM (show j<12 by omega)with rfl|rfl|rfl|rfl|rfl|rfl|rfl|rfl|rfl|rfl|rfl|rfl
    all_goals exact LG [] [⟨_,a⟩] h al0
   exact⟨λh=>F (b.1 h),λh=>F (b.2 h)⟩
def Ea(h:ll n):0<=n/\n<=4000000:=by simpa[ll]using h
def GU{L:Lg}(h:UN L 12 0):qX L:=λi a=>Ea (QX 12 0 h i od od)
def Rx(L:Lg)(f:Int):Hd ⟨54,[lC L f],aQ (zo L f)⟩:=by
 have a:=Og f;unfold zo
 cases c:ll f with
 | false=>rw[c]at a;exact aF func54 [⟨_,a⟩]
 | true =>
  rw[c]at a;have⟨i,j⟩:=abp (L:=L) (f:=f) 12 0 rfl;have e:=wI (S:=cvS L f 0) (q:=gF f54=gF f54) rfl (ps:=[]) al0
  cases d:UN L 12 0 with
  | false=>exact Ce func54 [] [_] (λx b=>by rw[qu]at b;subst b;exact j d) [⟨_,a⟩] e
  | true =>
   have⟨g,h⟩:=Ea c;have k:=abb (GU d) g h;exact Ce func54 [] [_] (λx b=>by rw[qu]at b;subst b;exact i d) [⟨_,a⟩,⟨_,k⟩] e
def KJ (t:Tr) (c:Int):Bool:=primB t&&decide (c+t.size<=300)
def AR (l:aE) (c:Int):Bool:=primBs l&&decide (c+sizes l<=300)
abbrev cH (c:Int):Hp:=⟨[(800100,[.d (.v (.i c))])],[]⟩
def RkH (t:Tr):Prop:=∀c:Int,0<=c->c<=300->∃c':Int,(KJ t c->c'=c+t.size)/\HX 132 [ndA t,.one (.p 800100 0)] (.rz [if KJ t c then tyA (kreadT t)else .agg [.d (.v (.i 0)),.d (.s 0 [])],bA (KJ t c)]) (cH c) (cH c')
def rkX (xs:aw) (j:Nat):St:=match xs with
 | []=>[((7,1),.of nilA)]
 | _::_=>[((7,1),.of (.one (.g 3000058 2 j))),((3000059,0),.kv 25 2 (tysD xs))]
def rkS (p:Int) (l:aE) (xs:aw) (j:Nat) (c:Int):St:=[((0,1),.of (.one (.p 800100 0))),((0,4),.of (.one (.p 4 0))),((0,6),.of (.one (.p 6 0))),((0,39),.of (CW l)),((0,40),lW (ndsD l).length),((0,41),.of (jA j)),((5,0),.of (iA 0)),((5,1),.of nilA),((7,0),.of (iA p)),((800101,0),.of (iA c))]++rkX xs j
def rkQ (p:Int) (xs:aw) (j:Nat) (c:Int):St:=[((0,4),.of (.one (.p 4 0))),((0,6),.of (.one (.p 6 0))),((5,0),.of (iA 0)),((5,1),.of nilA),((7,0),.of (iA p)),((800101,0),.of (iA c))]++rkX xs j
abbrev rkL (β:Nat->Option Nat) (S:St) (ex:Nat) (q:St):Prop:=@vO (qh β) prog f132.ntmps ⟨gF f132,S,ex,q⟩
def rkN (c:Int):St:=[((0,4),.of (.one (.p 4 0))),((5,0),.of (iA 0)),((5,1),.of nilA),((0,5),aQ false),((800101,0),.of (iA c))]
def QH{p:Int}{az:aE}(H:∀t∈az,RkH t):∀(l:aE) (j:Nat),j<=az.length->az.drop j=l->∀c:Int,(j:Int)<=c->c<=300->∃m:Int,(AR l c->m=c+sizes l) /\
 (AR l c->∀β,rkL β (rkS p az (kreadTs (az.take j)) j c) 2 (rkQ p (kreadTs az) az.length m))/\(AR l c=false->∀β,rkL β (rkS p az (kreadTs (az.take j)) j c) 1 (rkN m))
 | [],j,o,g,c,h0,u=>by
  have k:az.length<=j:=by have:=congrArg List.length g;simp at this;omega
  have r:mD (aQ (decide (Int.ofNat j<((ndsD az).length:Int)))) (bA false):=wH (by simp[Hf];omega);refine⟨c,λ_=>by simp[sizes],λ_ β=>?_,λh=>by simp[AR,primBs,sizes,u]at h⟩;obtain rfl:j=az.length:=jh6 o k;rw[ub k];cases kreadTs az<;>exact fF (e:=1) [(42,bA false)] [] (al r al0)
 | .nd tk b d ts a::l,j,o,g,c,h0,u=>by
  have k:j<az.length:=qa4 λh=>by rw[qb7 od]at g;cases g
  have w:az[j]?=some (.nd tk b d ts a):=by rw[kB k]at g;rw[qt k];exact congrArg some (qe2 g).1
  have J:az.drop (j+1)=l:=by rw[kB k]at g;exact (qe2 g).2
  have⟨G,n,hF⟩:=H _ (jz w) c od u;have r:mD (aQ (decide (Int.ofNat j<((ndsD az).length:Int)))) (bA true):=is_lt (by simp[Hf];omega);have A:=WV w;have C:mD (lW (IntKind.i64.wrap (Int.ofNat j+1))) (jA (j+1)):=yY (zF oe ot ot);have M:=size_pos (.nd tk b d ts a)
  cases f:KJ (.nd tk b d ts a) c with
  | false =>
   rw[f]at hF;have B:¬AR (.nd tk b d ts a::l) c:=λh=>by
    simp only[AR,KJ,primBs,sizes,je1,qv,ka2]at h f;have L:=qc4 h.2;rcases f with f|f
    .rw[h.1.1]at f;cases f
    .have:=of_decide_eq_false f;omega
   refine⟨G,λh=>absurd h B,λh=>absurd h B,λ_ β=>?_⟩;cases kreadTs (az.take j)<;>exact fF (e:=0) [(42,bA true),(43,.one (.e (ndD (.nd tk b d ts a)) 0))] [⟨_,hF⟩] (al r (al A al0))
  | true =>
   rw[f]at hF n;obtain rfl:=n rfl;simp only[KJ,qv]at f;have x:=qc4 f.2;have⟨m,z,v⟩:=QH (p:=p) H l (j+1) k J (c+((Tr.nd tk b d ts a).size:Int)) od x;have e:AR (.nd tk b d ts a::l) c=AR l (c+((Tr.nd tk b d ts a).size:Int)):=by
    simp only[AR,primBs,f.1,qa3,sizes]
    congr 2
    simp only[je1,eq_iff_iff];omega
   rw[e];have I:kreadTs (az.take (j+1))=kreadTs (az.take j)++[kreadT (.nd tk b d ts a)]:=by rw[Kg,Kg,jc1,w];simp
   have i:(kreadTs (az.take j)).length=j:=by rw[Kg,xj,qc2];omega
   rw[I]at v;have F:=λ(β:Nat->Option Nat) {ex:Nat} {q:St} (h:rkL β (rkS p az (kreadTs (az.take j)++[kreadT (.nd tk b d ts a)]) (j+1) (c+((Tr.nd tk b d ts a).size:Int))) ex q)=>(by
    generalize kreadTs (az.take j)=s at h i|-;have D:rowsLe ((tysD s).take j++tysD [kreadT (.nd tk b d ts a)]) (tysD (s++[kreadT (.nd tk b d ts a)])):=by rw[ub (by rw[eY];omega),tysD_map,tysD_map,tysD_map,ux];exact rows_refl _
    have E:zV 32 j (tysD s) (tysD [kreadT (.nd tk b d ts a)]):=iL (by rw[eY];omega) (by simp[tysD]) rfl (by simp[tysD];omega) ov
    cases s with
    | nil =>
     obtain rfl:j=0:=i.symm;exact jC [(42,bA true),(43,.one (.e (ndD (.nd tk b d ts a)) 0)),(60,jA (0+1)),(2000058,dZ [kreadT (.nd tk b d ts a)])] [⟨_,hF⟩] h (al r (al A (al D (al E (al C al0)))))
    | cons y K=>exact jC [(42,bA true),(43,.one (.e (ndD (.nd tk b d ts a)) 0)),(60,jA (j+1)),(2000058,dZ ((y::K)++[kreadT (.nd tk b d ts a)]))] [⟨_,hF⟩] h (al r (al A (al D (al E (al C al0))))):rkL β (rkS p az (kreadTs (az.take j)) j c) ex q)
   exact⟨m,λh=>by rw[z h];simp only[sizes];omega,λh β=>F β (v.1 h β),λh β=>F β (v.2 h β)⟩
def adB(h:z.size=0):jJ (!(z.toList==ByteArray.toList ⟨#[]⟩)) false:=eT (by have⟨d⟩:=z;obtain rfl:d=#[]:=ja7 h;rw[Bool.not_eq_false',jg2])
def acK(h:z.size≠0):jJ (!(z.toList==ByteArray.toList ⟨#[]⟩)) true:=eT (by
 rw[qh1,ja0];intro e;rw[jc5,jc5]at e;have⟨d⟩:=z;have e:d=#[]:=by simpa using e
 exact h (by rw[e];rfl))
def aaW{p:Int}(h:iZ β ok w (.rz [.agg [.d (.v (.i p)),.d (.s 0 [])],bA true]) v):iZ β ok w (.rz [.agg [.d (.v (.i p)),.d (.s 2 [])],bA true]) v:=by
 obtain⟨vs,rfl,h⟩:=h
 match vs,h with
 | [x,y],⟨h0,e,_⟩ =>
  obtain⟨j,rfl,c⟩:=h0
  match j,c with
  | [a,b],⟨f,g,_⟩=>exact⟨_,rfl,⟨_,rfl,f,gG g,trivial⟩,e,trivial⟩
mutual
def E_kread:∀t:Tr,RkH t
 | .nd k n p s a=>λc D E=>by
  have f:mD (lW (IntKind.i64.wrap (c+1))) (iA (c+1)):=yY (zF rfl od od);have B:(Tr.nd k n p s a).size=1+sizes a:=by simp only[Tr.size];omega
  by_cases o:300<c+1
  .refine⟨c+1,λh=>?_,?_⟩
   .simp only[KJ,qv]at h;have:=qc4 h.2;omega
   .rw[show KJ (.nd k n p s a) c=false by simp only[KJ,ka2];right;rw[qd6];omega];exact bH func132 [(14,iA (c+1)),(19,bA true)] [] [] oe (al f (al (is_lt o) al0))
  have g:mD (aQ (decide ((300:Int)<c+1))) (bA false):=wH o
  by_cases d:lS k n s
  .simp only[lS,jt]at d;obtain⟨rfl,rfl,e⟩:=d;have C:=adB e;have m:KJ (.nd 2 0 p s a) c=AR a (c+1):=by
    simp only[KJ,AR,primB,B,lS,e,and_self,decide_true,qa3]
    congr 2;simp only[je1,eq_iff_iff];omega
   have⟨w,z,i⟩:=QH (p:=p) (λt A=>E_kreads a t A) a 0 (yb _) rfl (c+1) od od;have l:=wI (S:=rkS p a [] 0 (c+1)) (q:=gF f132=gF f132) rfl (ps:=[mD (lW (IntKind.i64.wrap (c+1))) (iA (c+1)),mD (aQ (decide ((300:Int)<c+1))) (bA false),jJ (!(s.toList==ByteArray.toList ⟨#[]⟩)) false]) (al f (al g (al C al0)));refine⟨w,λh=>by rw[m]at h;rw[z h];omega,?_⟩;rw[m]
   cases j:AR a (c+1)with
   | false=>exact bH func132 [(14,iA (c+1)),(19,bA false),(32,bA false)] [_] [] (λβ x b=>by rw[qu]at b;subst b;exact i.2 j β) l
   | true =>
    cases a with
    | nil=>exact HX.conv (bH func132 [(14,iA (c+1)),(19,bA false),(32,bA false)] [_] [] (λβ x b=>by rw[qu]at b;subst b;exact i.1 j β) l) (λ_ _ _ _ h=>aaW h)
    | cons y v=>exact bH func132 [(14,iA (c+1)),(19,bA false),(32,bA false)] [_] [] (λβ x b=>by rw[qu]at b;subst b;exact i.1 j β) (jX l (al (show (y::v).length=(tysD (kreadTs (y::v))).length by rw[eY,Kg,xj]) al0))
  .refine⟨c+1,λh=>?_,?_⟩
   .simp only[KJ,primB,qv]at h;exact absurd h.1.1 d
   .rw[show KJ (.nd k n p s a) c=false by simp[KJ,primB,d]];simp only[lS,jt]at d
    by_cases r:k=2
    .subst r
     by_cases u:n=0
     .subst u;exact bH func132 [(14,iA (c+1)),(19,bA false),(32,bA true)] [] [] oe (al f (al g (al (acK (λh=>d ⟨rfl,rfl,h⟩)) al0)))
     .exact bH func132 [(14,iA (c+1)),(19,bA false),(27,bA true)] [] [] oe (al f (al g (al (oZ (zj u)) al0)))
    .exact bH func132 [(14,iA (c+1)),(19,bA false),(23,bA true)] [] [] oe (al f (al g (al (oZ (zj r)) al0)))
def E_kreads:∀l:aE,∀t∈l,RkH t
 | [],_,h=>by cases h
 | t::l,a,h=>by
  by_cases e:a=t
  .rw[e];exact E_kread t
  .exact E_kreads l a (by rcases ke.1 h with h|h;exact absurd h e;exact h)
end
mutual
def okT_read:∀t:Tr,okN t->okT (kreadT t)
 | .nd _ _ _ _ a,h=>⟨h.1.2.2.1,okTs_read a h.2⟩
def okTs_read:∀l:aE,okNs l->okTs (kreadTs l)
 | [],_=>trivial
 | t::l,h=>⟨okT_read t h.1,okTs_read l h.2⟩
end
def Vi(k:okN t):Hd ⟨115,[ndA t],.rz [if fu t then tyA (kreadT t)else .agg [.d (.v (.i 0)),.d (.s 0 [])],iA (if fu t then 0 else 1)]⟩:=by
 have⟨l,_,hF⟩:=E_kread t 0 od od;have e:fu t=(KJ t 0&&au (kreadT t)):=by
  have h:decide (0+t.size<=300)=decide ((0:Int)+(t.size:Int)<=300):=by rw[qh7];omega
  simp only[fu,oW,KJ,h]
 have a:=Cb (okT_read t k);rw[e];replace hF:=hF.to 800100 4;have⟨tk,f,g,ts,c⟩:=t
 cases b:KJ (.nd tk f g ts c) 0 with
 | false =>
  rw[b]at hF;exact aF func115 [⟨_,hF⟩]
 | true =>
  rw[b]at hF;rw[qa3];cases j:au (kreadT (.nd tk f g ts c))<;>rw[j]at a
  .exact aF func115 [⟨_,hF⟩,⟨_,a⟩]
  .exact aF func115 [⟨_,hF⟩,⟨_,a⟩]
def U2(b:okN t)(a:fu t):Hd ⟨115,[ndA t],.rz [tyA (kreadT t),iA 0]⟩:=by have:=Vi b;rw[a]at this;exact this
