import Derived.Test.YtgfdimkbfnpepaaGreatKtZah
namespace Go.Proofs.YtgfdimkbfnpepaaGreat
set_option linter.all false
open Go.Proofs.Tryz
set_option maxRecDepth 100000
set_option maxHeartbeats 4000000
inductive iF where
 | no (e:Int)
 | ok (f:Bool) (ts:List Ty)
def sFq:ao->List Int->Bool
 | _,[]=>true
 | [],_::_=>false
 | T::s,k::ks=>(decide (k=0)||decide (T.t=k))&&sFq s ks
structure Ins where
 p:Int
 n:Int
 types:ao
 rows:List aE
 data:Tr
def tr0:Tr:=.nd 0 0 0 ⟨#[]⟩ []
def bR (p:Int):bw :=
 if p=41\/p=43\/p=44 then [110]
 else if p=45 then [116,118]
 else if p=50\/p=51\/p=54\/p=56\/p=82\/p=88 then [116]
 else if p=61 then [116,117]
 else if p=52\/p=55\/p=58\/p=64 then [99,100]
 else if p=60\/p=65\/p=68 then [99]
 else if p=66 then [116,117,99]
 else []
def iy (i:Ins) (f:UInt8) (t:Tr):Option Ins :=
 if f=110 then (if t.k0=0/\0<=t.n0/\t.n0<=40 then some { i with n:=t.n0 } else none)
 else if f=116\/f=117 then (if fu t then some { i with types:=i.types++[kreadT t] } else none)
 else if f=99\/f=100 then (if t.k0=3 then some { i with rows:=i.rows++[t.args0] } else none)
 else some { i with data:=t }
def takesF:Ins->bw->aE->Option Ins
 | i,f::fs,t::l=>match iy i f t with
  | none=>none
  | some j=>takesF j fs l
 | i,[],_=>some i
 | i,_::_,[]=>some i
def iY (t:Tr):Option Ins :=
 if t.k0=2/\40<=t.p0/\t.args0.length=(bR t.p0).length then takesF ⟨t.p0,0,[],[],tr0⟩ (bR t.p0) t.args0 else none
mutual
def mintsT:Tr->Bool
 | .nd k _ p _ args=>(decide (k=2/\p=84))||mintsTs args
def mintsTs:aE->Bool
 | []=>false
 | t::l=>mintsT t||mintsTs l
end
def fQ (s top:ao):iF:=.ok false (top++s)
def meetF:iF->iF->iF
 | .no e,_=>.no e
 | .ok _ _,.no e=>.no e
 | .ok f a,.ok g b=>if f then .ok g b else if g\/sameTs a b then .ok f a else .no 5
def rowAt (i:Ins) (k:Nat):aE:=(i.rows[k]?).getD []
def iC (row:aE->ao->iF) (i:Ins) (s x y:ao):iF:=meetF (row (rowAt i 0) (x++s)) (row (rowAt i 1) (y++s))
def dM (row:aE->ao->iF) (i:Ins) (x y z:ao):iF:=match meetF (row (rowAt i 0) x) (fQ y [])with
 | .no e=>.no e
 | .ok _ _=>fQ z []
def l7 (row:aE->ao->iF) (i:Ins) (top:Ty) (s:ao):iF:=match row (rowAt i 0) s with
 | .no e=>.no e
 | .ok f ts=>if f then .no 1 else fQ ts [top]
def dG (i:Ins) (s:ao):iF :=
 if i.p=40/\sFq s [0]then fQ (s.drop 1) []
 else if i.p=41/\1<=i.n/\i.n<=s.length/\A7 (bB s (i.n.toNat - 1))then fQ s [bB s (i.n.toNat - 1)]
 else if i.p=42/\sFq s [0,0]then fQ (s.drop 2) [bB s 1,bB s 0]
 else if i.p=43/\i.n<s.length then fQ (s.take i.n.toNat++s.drop (i.n.toNat+1)) [bB s i.n.toNat]
 else if i.p=44/\i.n<s.length then fQ (s.take 1++s.drop (i.n.toNat+1)) ((s.drop 1).take i.n.toNat)
 else .no 5
def bO (i:Ins) (s:ao):iF :=
 if i.p=46/\sFq s [0,0]then fQ (s.drop 2) [.nd 11 [bB s 0,bB s 1]]
 else if i.p=47/\sFq s [11]then fQ (s.drop 1) (bB s 0).args
 else if i.p=48/\sFq s [11]then fQ (s.drop 1) [bB (bB s 0).args 0]
 else if i.p=49/\sFq s [11]then fQ (s.drop 1) [bB (bB s 0).args 1]
 else if i.p=50/\sFq s [0]then fQ (s.drop 1) [.nd 12 [bB s 0,bB i.types 0]]
 else if i.p=51/\sFq s [0]then fQ (s.drop 1) [.nd 12 [bB i.types 0,bB s 0]]
 else if i.p=53/\sFq s [0]then fQ (s.drop 1) [.nd 9 [bB s 0]]
 else if i.p=54 then fQ s [.nd 9 [bB i.types 0]]
 else .no 5
def aP (i:Ins) (s:ao):iF :=
 if i.p=56 then fQ s [.nd 10 [bB i.types 0]]
 else if i.p=57/\sFq s [0,10]/\sameT (bB s 0) (bB (bB s 1).args 0)then fQ (s.drop 1) []
 else if i.p=59/\(sFq s [6]\/sFq s [10]\/sFq s [13])then fQ (s.drop 1) [.nd 4 []]
 else if i.p=61/\oF (bB i.types 0)then fQ s [.nd 13 i.types]
 else if i.p=62/\sFq s [0,13]/\sameT (bB s 0) (bB (bB s 1).args 0)/\A7 (bB (bB s 1).args 1)then fQ (s.drop 2) [.nd 9 [bB (bB s 1).args 1]]
 else if i.p=63/\sFq s [0,9,13]/\sameT (bB s 0) (bB (bB s 2).args 0)/\sameT (bB (bB s 1).args 0) (bB (bB s 2).args 1)then fQ (s.drop 2) []
 else .no 5
def eG (row:aE->ao->iF) (i:Ins) (s:ao):iF :=
 if i.p=52/\sFq s [12]then iC row i (s.drop 1) ((bB s 0).args.take 1) ((bB s 0).args.drop 1)
 else if i.p=55/\sFq s [9]then iC row i (s.drop 1) [] (bB s 0).args
 else if i.p=58/\sFq s [10]then iC row i (s.drop 1) [bB (bB s 0).args 0,bB s 0] []
 else if i.p=64/\sFq s [2]then iC row i (s.drop 1) [] []
 else .no 5
def bP (row:aE->ao->iF) (i:Ins) (s:ao):iF :=
 if i.p=60/\sFq s [10]then dM row i ((bB s 0).args++s.drop 1) (s.drop 1) (s.drop 1)
 else if i.p=60/\sFq s [13]then dM row i ([.nd 11 (bB s 0).args]++s.drop 1) (s.drop 1) (s.drop 1)
 else if i.p=65/\sFq s [2]then dM row i (s.drop 1) s (s.drop 1)
 else if i.p=66/\mintsTs (rowAt i 0)=false then dM row i (i.types.take 1) (i.types.drop 1) ([.nd 14 i.types]++s)
 else if i.p=67/\sFq s [0,14]/\sameT (bB s 0) (bB (bB s 1).args 0)then fQ (s.drop 2) [bB (bB s 1).args 1]
 else if i.p=68/\sFq s [0]then l7 row i (bB s 0) (s.drop 1)
 else .no 5
def zC (t:Int):Bool:=decide (t=3\/t=4)
def Jt (q r:Ty):Ty:=.nd 9 [.nd 11 [q,r]]
def IP (p a b:Int):Option Ty :=
 if p=69/\a=5/\b=5 then some (.nd 5 [])
 else if p=70/\a=5/\b=5 then some (.nd 9 [.nd 5 []])
 else if p=71/\(a=5/\b=4\/a=4/\b=5)then some (.nd 5 [])
 else if p=72/\a=5/\b=5 then some (Jt (.nd 4 []) (.nd 5 []))
 else if p=72/\a=5/\b=4 then some (Jt (.nd 5 []) (.nd 5 []))
 else if zC a=false\/zC b=false then none
 else if p=72/\a=4/\b=4 then some (Jt (.nd 4 []) (.nd 4 []))
 else if p=72 then some (Jt (.nd 3 []) (.nd 4 []))
 else if p≠70/\a=4/\b=4 then some (.nd 4 [])
 else some (.nd 3 [])
def bJ (i:Ins) (s:ao):iF :=
 if i.p=93/\sFq s [3]then fQ (s.drop 1) [.nd 4 []]
 else if i.p=94/\sFq s [3]then fQ (s.drop 1) [.nd 9 [.nd 4 []]]
 else if i.p=95/\sFq s [4]then fQ (s.drop 1) [.nd 3 []]
 else if (i.p=69\/i.p=70\/i.p=71\/i.p=72)/\sFq s [0,0]then (match IP i.p (bB s 0).t (bB s 1).t with
  | some T=>fQ (s.drop 2) [T]
  | none=>.no 5)
 else .no 5
def dI (i:Ins) (s:ao):iF :=
 if i.p=73/\sFq s [0,0]/\sameT (bB s 0) (bB s 1)/\oF (bB s 0)then fQ (s.drop 2) [.nd 3 []]
 else if (i.p=74\/i.p=75\/i.p=76)/\sFq s [3]then fQ (s.drop 1) [.nd 2 []]
 else if i.p=77/\sFq s [2]then fQ (s.drop 1) [.nd 2 []]
 else if (i.p=78\/i.p=79)/\sFq s [2,2]then fQ (s.drop 2) [.nd 2 []]
 else .no 5
def cZ (i:Ins) (s:ao):iF :=
 if i.p=45/\eB (bB i.types 0)/\(jf (bB i.types 0) i.data).isSome then fQ s [bB i.types 0]
 else if i.p=80/\sFq s [6,6]then fQ (s.drop 2) [.nd 6 []]
 else if i.p=81/\sFq s [0]/\eB (bB s 0)then fQ (s.drop 1) [.nd 6 []]
 else if i.p=82/\sFq s [6]/\eB (bB i.types 0)then fQ (s.drop 1) [.nd 9 [bB i.types 0]]
 else if i.p=83/\sFq s [0]/\eB (bB s 0)then .ok true []
 else .no 5
def bF (i:Ins) (s:ao):iF :=
 if i.p=84/\sFq s [0,4]/\oF (bB s 0)then fQ (s.drop 2) [.nd 9 [.nd 15 [bB s 0]]]
 else if i.p=85/\sFq s [15]then fQ s [.nd 11 [.nd 7 [],.nd 11 [bB (bB s 0).args 0,.nd 4 []]]]
 else if i.p=86/\sFq s [15,11]/\sFq (bB s 1).args [4,4]then fQ (s.drop 2) [.nd 9 [.nd 11 [bB s 0,bB s 0]]]
 else if i.p=87/\sFq s [11]/\sFq (bB s 0).args [15,15]/\sameT (bB (bB s 0).args 0) (bB (bB s 0).args 1)then fQ (s.drop 1) [.nd 9 [bB (bB s 0).args 0]]
 else .no 5
def dO (i:Ins) (s:ao):iF :=
 if i.p=88/\sFq s [0,5,7]/\sameT (bB s 0) (bB i.types 0)/\storeT (bB s 0)then fQ (s.drop 3) [.nd 8 []]
 else if i.p=89\/i.p=90 then fQ s [.nd 7 []]
 else if i.p=91\/i.p=92 then fQ s [.nd 5 []]
 else .no 5
def vP (row:aE->ao->iF) (i:Ins) (s:ao):iF :=
 if i.p=40\/i.p=41\/i.p=42\/i.p=43\/i.p=44 then dG i s
 else if i.p=46\/i.p=47\/i.p=48\/i.p=49\/i.p=50\/i.p=51\/i.p=53\/i.p=54 then bO i s
 else if i.p=56\/i.p=57\/i.p=59\/i.p=61\/i.p=62\/i.p=63 then aP i s
 else if i.p=52\/i.p=55\/i.p=58\/i.p=64 then eG row i s
 else if i.p=60\/i.p=65\/i.p=66\/i.p=67\/i.p=68 then bP row i s
 else if i.p=69\/i.p=70\/i.p=71\/i.p=72\/i.p=93\/i.p=94\/i.p=95 then bJ i s
 else if i.p=73\/i.p=74\/i.p=75\/i.p=76\/i.p=77\/i.p=78\/i.p=79 then dI i s
 else if i.p=45\/i.p=80\/i.p=81\/i.p=82\/i.p=83 then cZ i s
 else if i.p=84\/i.p=85\/i.p=86\/i.p=87 then bF i s
 else dO i s
def keptF:iF->iF
 | .no e=>.no e
 | .ok f ts=>if 40<ts.length then .no 7 else if ts.all bn then .ok f ts else .no 4
def iG (st:Tr->ao->iF):aE->Bool->ao->iF
 | [],f,s=>.ok f s
 | t::l,f,s=>if f then .no 1 else match keptF (st t s)with
  | .no e=>.no e
  | .ok g s'=>iG st l g s'
def stepF:Nat->Tr->ao->iF
 | 0,_,_=>.no 1
 | N+1,t,s=>if t.k0=3 then iG (stepF N) t.args0 false s else match iY t with
  | none=>.no 1
  | some i=>vP (λl s=>iG (stepF N) l false s) i s
def codeF (n:Tr) (s:ao):iF :=
 if dS n≠0 then .no (dS n)else if n.k0≠3 then .no 1 else if 40<s.length then .no 7 else if s.all bn then iG (stepF 300) n.args0 false s else .no 5
def nP{r:iF}{f:Bool}{ts:ao}(h:keptF r =.ok f ts):r =.ok f ts/\ts.length<=40/\ts.all bn:=by
 cases r with
 | no e=>simp[keptF]at h
 | ok g c =>
  simp only[keptF]at h
  by_cases a:40<c.length
  .simp[a]at h
  .by_cases b:c.all bn
   .rw[if_neg a,if_pos b]at h;injection h with d i;subst d;subst i;exact⟨rfl,od,b⟩
   .rw[if_neg a,if_neg b]at h;cases h
def kT (r:iF):Prop:=∀ts,r =.ok true ts->ts=[]
def Ec{st:Tr->ao->iF}(a:∀t s,kT (st t s)):∀(l:aE) (f:Bool) (s:ao) {g:Bool}{ts:ao},s.length<=40->s.all bn->(f->s=[])->iG st l f s =.ok g ts->ts.length<=40/\ts.all bn/\(g->ts=[])
 | [],f,s,g,ts,c,d,i,h=>by simp only[iG,iF.ok.injEq]at h;obtain⟨rfl,rfl⟩:=h;exact⟨c,d,i⟩
 | t::l,f,s,g,ts,c,d,i,h=>by
  simp only[iG]at h
  by_cases j:f
  .simp[j]at h
  .simp only[j]at h
   cases hk:keptF (st t s)with
   | no e=>simp[hk]at h
   | ok m k =>
    simp only[hk]at h;have⟨e,n,o⟩:=nP hk;exact Ec a l m k n o (λb=>a t s k (by rw[e,b])) (by simpa using h)
def vg(s top:ao):kT (fQ s top):=λa h=>by simp[fQ]at h
def jy(e:Int):kT (.no e):=λa h=>by simp at h
def noTys_fail:kT (.ok true []):=λa h=>by simp at h;exact h
def NQ{c:Prop}[Decidable c]{a b:iF}(d:kT a)(hb:kT b):kT (if c then a else b):=by
 by_cases h:c
 .rw[if_pos h];exact d
 .rw[if_neg h];exact hb
def NR{o:Option Ty}{g:Ty->iF}(a:∀T,kT (g T)){e:Int} : kT (match o with
 | some T=>g T
 | none=>.no e):=by
 cases o with
 | none=>exact jy e
 | some T=>exact a T
def JU{a b:iF}(c:kT a)(hb:kT b):kT (meetF a b):=by
 cases a with
 | no e=>exact jy e
 | ok f x =>
  cases b with
  | no e=>exact jy e
  | ok g y =>
   simp only[meetF];split
   .exact hb
   .split
    .exact c
    .exact jy 5
def ze{st:Tr->ao->iF}(a:∀t s,kT (st t s)):∀(l:aE) (f:Bool) (s:ao),(f->s=[])->kT (iG st l f s)
 | [],f,s,h=>λg e=>by simp only[iG,iF.ok.injEq]at e;obtain⟨rfl,rfl⟩:=e;exact h rfl
 | t::l,f,s,h=>by
  simp only[iG];split
  .exact jy 1
  .cases hk:keptF (st t s)with
   | no e=>exact jy e
   | ok d c=>exact ze a l d c (λb=>a t s c (by rw[(nP hk).1,b]))
def NP{row:aE->ao->iF}(b:∀l s,kT (row l s))(i:Ins)(s:ao):kT (vP row i s):=by
 have d:∀s x y,kT (iC row i s x y):=λs x y=>JU (b _ _) (b _ _);have e:∀x y z,kT (dM row i x y z):=λx y z=>by
  unfold dM;split
  .exact jy _
  .exact vg _ _
 have c:∀a s,kT (l7 row i a s):=λa s=>by
  unfold l7;split
  .exact jy _
  .split
   .exact jy 1
   .exact vg _ _
 unfold vP dG bO aP eG bP bJ dI cZ bF dO
 repeat' apply NQ
 all_goals first|exact vg _ _|exact jy _|exact noTys_fail|exact d _ _ _|exact e _ _ _|exact c _ _|exact NR (λT=>vg _ _)
def noTys_step:∀(N:Nat) (t:Tr) (s:ao),kT (stepF N t s)
 | 0,t,s=>jy 1
 | N+1,t,s=>by
  rw[stepF];split
  .exact ze (noTys_step N) _ _ _ ot
  .split
   .exact jy 1
   .exact NP (λl s=>ze (noTys_step N) _ _ _ ot) _ _
def slq:∀{s:ao}{ks:List Int},sFq s ks->ks.length<=s.length
 | _,[],_=>ot
 | [],_::_,h=>by simp[sFq]at h
 | T::s,k::ks,h=>by simp only[sFq,qu]at h;have:=slq h.2;simp;omega
open Go.ChangeShapes Go.WideShapes Go.ChangeAt Go.RowKit
def WL (r:iF) (W:bx) (e:Ending) (w':bx):Prop :=
 cm W w' none/\((∃er,r =.no er/\er≠0/\e =.returned (.tuple #[.agg #[.n0,.bool false],.i er]))\/∃f ts a l c,r =.ok f ts/\e =.returned (.tuple #[.agg #[.slice a l c,.bool f],.i 0])/\jo w' ts (.slice a l c))
def WL.of{r:iF}{W a:bx}{e:Ending}{w':bx}(h:WL r a e w')(b:cm W a none):WL r W e w':=⟨aJ b h.1,h.2⟩
def WL.form{r:iF}{W:bx}{e:Ending}{w':bx}(h:WL r W e w'):∃a l c f b,e =.returned (.tuple #[.agg #[.slice a l c,.bool f],.i b]):=by
 rcases h.2 with⟨b,_,_,rfl⟩|⟨f,d,a,l,c,_,rfl,_⟩
 .exact⟨_,_,_,_,_,rfl⟩
 .exact⟨_,_,_,_,_,rfl⟩
def NT{w:bx}{R l c:Nat}{a:bj}{f:Bool}{T:TypeId}(hb:w.heap[R]?=some (.cells #[.slice a l c,.bool f] T (0,0)))(n:Nat)(z:Int):w.cell? ⟨R,n,none⟩≠some (.i z):=by intro h;rcases n with _|_|n<;>simp[World.cell?,hb]at h
def rC.ne{ok:br}{w:bx}{R l c:Nat}{a:bj}{f:Bool}{T:TypeId}(hb:w.heap[R]?=some (.cells #[.slice a l c,.bool f] T (0,0))){p:bj}{i:Nat}{v:cg}(h:rC ok w p i v):rC (λb=>ok b/\b≠R) w p i v:=by have⟨b,o,e,n,t,g,r,j,q,d,m⟩:=h;exact⟨b,o,e,⟨n,λk=>by subst k;exact NT hb _ _ d⟩,t,g,r,j,q,d,m⟩
def aH.ne{ok:br}{w:bx}{R l c:Nat}{a:bj}{f:Bool}{T:TypeId}(hb:w.heap[R]?=some (.cells #[.slice a l c,.bool f] T (0,0))){t:Ty}{v:cg}(h:aH ok w t v):aH (λb=>ok b/\b≠R) w t v:=by
 induction h with
 | mk V j d m e _ k=>exact .mk V j d m (λi g=>(e i g).ne hb) k
def jo.set{w:bx}{ts:ao}{u:cg}(h:jo w ts u){R l c:Nat}{a:bj}{f:Bool}{T:TypeId}(hb:w.heap[R]?=some (.cells #[.slice a l c,.bool f] T (0,0)))(x y:cg):jo (set2 w R x y) ts u:=by have⟨m,n,V,e,p,j⟩:=h;have r:Same (λb=>True/\b≠R) w (set2 w R x y):=λb o q g=>qt ((vI w R x y).block b g (by have:=q.2;simp;omega));have k:dw (λb=>True/\b≠R) w ts m V:=⟨j.1,λi d=>(j.2.1 i d).ne hb,λi d=>(j.2.2 i d).ne hb⟩;exact⟨m,n,V,e,p,(k.same r).ae (λ_ _ _=>trivial)⟩
def stand_iff:∀(s:ao) (ks:List Int),sFq s ks ↔ ks.length<=s.length/\∀i (h:i<ks.length) (a:i<s.length),ks[i]=0\/(s[i]).t=ks[i]
 | s,[]=>by cases s<;>simp[sFq]
 | [],k::ks=>by simp[sFq]
 | T::s,k::ks=>by
  have f:=stand_iff s ks;simp only[sFq,qu,qe0,kj,f,jt,Nat.add_le_add_iff_right];constructor
  .rintro⟨b,a,c⟩;refine⟨a,λi d e=>?_⟩
   cases i with
   | zero=>exact b
   | succ i=>exact c i od od
  .rintro⟨b,a⟩;exact⟨a 0 od od,b,λi d e=>a (i+1) od od⟩
def Af (p n:Int) (ta:bj) (tl tc:Nat) (ra:bj) (rl rc:Nat) (dk dn dp:Int) (ds:bo) (da:bj) (dl dc:Nat):cg :=
 .agg #[.i p,.i n,.slice ta tl tc,.slice ra rl rc,.i dk,.i dn,.i dp,.string ds,.slice da dl dc]
def jo.at{w:bx}{s:ao}{sa:bj}{sl sc:Nat}(h:jo w s (.slice sa sl sc))(i:Nat)(hi:i<s.length):∃b o t a l k,sa=some ⟨b,o,none⟩/\w.cell? ⟨b,o+2*i,none⟩=some (.i t)/\w.cell? ⟨b,o+(2*i+1),none⟩=some (.slice a l k)/\aH (λ_=>True) w (bB s i) (Go.Proofs.YtgfdimkbfnpepaaGreat.bY t a l k):=by
 have⟨n,c,V,e,p,f⟩:=h;simp only[kl]at e;obtain⟨rfl,rfl,rfl⟩:=e;obtain⟨b,o,rfl,_,t,a,l,k,m,g,j⟩:=f.2.1 i hi;have d:=f.2.2 i hi;rw[m]at d;refine⟨b,o,t,a,l,k,rfl,?_,?_,?_⟩
 .rw[jc1];exact g
 .rw[jc1,<-qd6];exact j
 .unfold bB;rw[qn hi];exact d
def RO(W:bx)(I R:Obj):cm W ((W.alloc I).alloc R) none/\((W.alloc I).alloc R).heap[W.heap.size]?=some I/\((W.alloc I).alloc R).heap[W.heap.size+1]?=some R:=by refine⟨aJ (aK _) (aK _),CJ W I R,?_⟩;have h:=jj (W.alloc I) R;rwa [show (W.alloc I).heap.size=W.heap.size+1 from by simp]at h
def XJ(W:bx)(I R K:Obj):cm W (((W.alloc I).alloc R).alloc K) none/\(((W.alloc I).alloc R).alloc K).heap[W.heap.size]?=some I/\(((W.alloc I).alloc R).alloc K).heap[W.heap.size+1]?=some R/\(((W.alloc I).alloc R).alloc K).heap[W.heap.size+1+1]?=some K:=by have⟨a,b,c⟩:=RO W I R;refine⟨aJ a (aK _),aB b,aB c,?_⟩;have h:=jj ((W.alloc I).alloc R) K;rwa [show ((W.alloc I).alloc R).heap.size=W.heap.size+1+1 from by simp]at h
def JJ{w w':bx}{a:Addr}{v:cg}(b:cm w w' none)(h:w.cell? a=some v):w'.cell? a=some v:=(qt (b.block _ (zv w _ h) ot)).trans h
def l5{w w':bx}{b:Nat}{o:Obj}(h:w.heap[b]?=some o)(a:cm w w' none):w'.heap[b]?=some o:=(a.block _ (qq.1 h).1 ot).trans h
def ZI{w w':bx}{b:Nat}{o:Obj}(h:Hid (w.heap[b]?=some o))(g:cm w w' none):Hid (w'.heap[b]?=some o):=l5 h g
def aH.low{w:bx}{T:Ty}{v:cg}(h:aH (λ_=>True) w T v):aH (· < w.heap.size) w T v:=h.ae (λb a _=>a)
def KJ{w w':bx}{r:Option Nat}(h:w.drew.grownBy w' r):cm w w' r:=⟨h.os,h.tape,h.output,h.size,h.block⟩
def Ip{s:ao}{ks:List Int}(h:sFq s ks)(i:Nat)(k:Int)(hk:ks[i]?=some k)(b:k≠0):(bB s i).t=k:=by
 have⟨f,c⟩:=(stand_iff s ks).1 h;have⟨d,e⟩:=qv.1 hk;have a:i<s.length:=od
 have:=c i d a;rw[e]at this;unfold bB;rw[qn a];rcases this with h|h
 .exact absurd h b
 .exact h
def Lt{s:ao}(h:s.all bn){i:Nat}(hi:i<s.length):bn (bB s i):=by unfold bB;rw[qn hi];exact kB.1 h _ (zd hi)
def xL{T:Ty}(h:bn T):(T.args.length:Int)=bT T.t:=by have⟨t,args⟩:=T;simp only[bn,j5,qu,kj]at h;exact h.1.1.1.2.2
def pS{α:Type} : (∀(l:List α) (i:Nat) (a:α),l.toArray.setIfInBounds i a=(l.set i a).toArray)/\(∀(a b:α) (l:List α),(a::l).set 0 b=b::l)/\(∀(a b:α) (l:List α) (n:Nat),(a::l).set (n+1) b=a::l.set n b) :=
 ⟨λl i a=>zc ..,λa b l=>xF ..,λa b l n=>xj ..⟩
def rU (f:Bool) (ts:ao) (T:Ty):Bool:=f||(match ts with
 | [t]=>sameT t T
 | _=>false)
def jG (v:Va):Bool:=match codeF (.nd 3 0 0 ⟨#[]⟩ v.code) (v.types.take 1)with
 | .no _=>false
 | .ok f ts=>rU f ts (bB v.types 1) && !mintsTs v.code
mutual
def lamsF:Va->Bool
 | .mk k n a s args types code=>(!decide (k=14)||jG (.mk k n a s args types code))&&lamsFs args
def lamsFs:an->Bool
 | []=>true
 | x::xs=>lamsF x&&lamsFs xs
end
def qC (T:Ty) (v:Va):Bool:=pY T v&&lamsF v
def Rd (w:bx) (rb:Nat) (rest:bo) (n x:Int):Prop:=w.heap[rb]?=some (.cells #[.string rest,.i n,.i x] 228 (0,0))
section
variable {P:Program}{ops:Array Oper}{Q:Exit->Act->bx->Prop}{md:Region.Mode}{S:bx->Prop}
def Wl(i:Nat)(d:Tmp){g:Act}{e:Nat}{b:Array Bool}{a:Act}{w:bx}(h:wpAnyH P md ops Q S e (b.setIfInBounds i true) g w)
 (hi:∃f,ops[i]?=some f/\f.dst=some d/\Region.wanted f (yielded ops a.tmps)=false:=by exact⟨_,rfl,rfl,by rfl⟩)
 (hs:Region.noSelect ops:=by kernel_rfl) (hf:Region.free md ops b i:=by kernel_rfl) (hr:(Region.ready md ops b).contains i:=by kernel_rfl)
 (hQ:∀c a w,Q (.panic c) (a.put (some d) undef) w->Q (.panic c) a w:=by exact λ_ _ _ h=>h) (hS:S w:=by assumption) (h9:a.put (some d) undef=g:=by simp only[Act.put,pS];rfl):wpAnyH P md ops Q S (e+1) b a w:=by
 subst h9;have⟨f,j,k,l⟩:=hi;rw[<-k]at hQ h;exact wpAnyH_take j hs hf hr hQ (.inr ⟨l,rfl⟩) hS h
def LX(i:Nat)(d:Tmp){v:cg}{e:Nat}{b:Array Bool}{a:Act}{w:bx}(hi:∃f,ops[i]?=some f/\f.dst=some d/\Region.wanted f (yielded ops a.tmps)/\∀w,S w->(execOp a.eval f).run P w =.ok (.value v) w)
 (h:wpAnyH P md ops Q S e (b.setIfInBounds i true) (a.put (some d) v) w)
 (hs:Region.noSelect ops:=by kernel_rfl) (hf:Region.free md ops b i:=by kernel_rfl) (hr:(Region.ready md ops b).contains i:=by kernel_rfl)
 (hQ:∀c a w,Q (.panic c) (a.put (some d) v) w->Q (.panic c) a w:=by exact λ_ _ _ h=>h) (hS:S w:=by assumption):wpAnyH P md ops Q S (e+1) b a w:=by
 have⟨f,g,j,k,l⟩:=hi;rw[<-j]at hQ h;exact wpAnyH_take g hs hf hr hQ (.inl ⟨k,l⟩) hS h
end
def fG(i:Nat)(d:Tmp){k:Act}{P:Program}{e:Array Oper}{Q:Exit->Act->bx->Prop}{j:Region.Mode}{S:bx->Prop}{v:cg}{g:Oper}{f:Nat}{b:Array Bool}{a:Act}{w:bx}(h:wpAnyH P j e Q S f (b.setIfInBounds i true) k w)
 (h1:e[i]?=some g:=by rfl) (h2:g.dst=some d:=by rfl) (h3:Region.wanted g (yielded e a.tmps):=by rfl)
 (h4:∀w,S w->(execOp a.eval g).run P w =.ok (.value v) w:=by intro w l;go_simp;try with_reducible rfl)
 (hs:Region.noSelect e:=by kernel_rfl) (hf:Region.free j e b i:=by kernel_rfl) (hr:(Region.ready j e b).contains i:=by kernel_rfl)
 (hQ:∀c a w,Q (.panic c) (a.put (some d) v) w->Q (.panic c) a w:=by exact λ_ _ _ h=>h) (hS:S w:=by assumption) (h9:a.put (some d) v=k:=by simp only[Act.put,pS];rfl):wpAnyH P j e Q S (f+1) b a w :=
 LX i d ⟨g,h1,h2,h3,h4⟩ (h9 ▸ h) hs hf hr hQ hS
def Rd.cells{w:bx}{rb:Nat}{a:bo}{n x:Int}(h:Rd w rb a n x) :
 w.cell? ⟨rb,0,none⟩=some (.string a)/\w.cell? ⟨rb,1,none⟩=some (.i n)/\w.cell? ⟨rb,2,none⟩=some (.i x)/\w.frozen? ⟨rb,0,none⟩=false/\w.frozen? ⟨rb,1,none⟩=false/\w.frozen? ⟨rb,2,none⟩=false:=by
 unfold Rd at h;simp[World.cell?,World.frozen?,h]
def Rd.lt{w:bx}{rb:Nat}{a:bo}{n x:Int}(h:Rd w rb a n x):rb<w.heap.size:=(qq.1 h).1
def Rd.set0{w:bx}{rb:Nat}{a:bo}{n x:Int}(h:Rd w rb a n x)(r:bo):Rd (w.setCell ⟨rb,0,none⟩ (.string r)) rb r n x:=by unfold Rd at *;simp[World.setCell,ux,h]
def Rd.set1{w:bx}{rb:Nat}{a:bo}{n x:Int}(h:Rd w rb a n x)(m:Int):Rd (w.setCell ⟨rb,1,none⟩ (.i m)) rb a m x:=by unfold Rd at *;simp[World.setCell,ux,h]
def Rd.set2{w:bx}{rb:Nat}{a:bo}{n x:Int}(h:Rd w rb a n x)(m:Int):Rd (w.setCell ⟨rb,2,none⟩ (.i m)) rb a n m:=by unfold Rd at *;simp[World.setCell,ux,h]
def Rd.alloc{w:bx}{rb:Nat}{a:bo}{n x:Int}(h:Rd w rb a n x)(o:Obj):Rd (w.alloc o) rb a n x:=by unfold Rd at *;rw[qd2 (h:=(qq.1 h).1)];exact h
def lI{w:bx}{rb:Nat}{a:bo}{n:Int}(h:Rd w rb a n 0)(e:Int) :
 Calls prog 219 #[.po rb,.i e] w λr w'=>r =.returned (.tuple #[])/\Rd w' rb a n e/\cm w w' (some rb):=by
 have⟨b,c,d,f,g,j⟩:=h.cells;have H:=jh h;clear h;go_enter func219,ntmps219
 go_wp2
 go_end0
 exact⟨rfl,H.set2 e,dY (bM _ _) _ _ _⟩
def oG{w:bx}{rb:Nat}{a:bo}{n x:Int}(h:Rd w rb a n x)(k:x≠0)(e:Int) :
 Calls prog 219 #[.po rb,.i e] w λr w'=>r =.returned (.tuple #[])/\w'=w:=by
 have⟨b,c,d,f,g,j⟩:=h.cells;clear h;go_enter func219,ntmps219
 go_wp2
 go_end0
 exact⟨rfl,rfl⟩
def bs (l:bw):bo:=⟨l.toArray⟩
def eQ(l:bw):(bs l).size=l.length:=by simp[bs,ByteArray.size]
def TM(l:bw)(k:Nat)(h:k<=l.length):(bs l).extract 0 k=bs (l.take k):=by apply ByteArray.ext;rw[je1];apply Array.ext';simp[bs]
def TL(l:bw)(k:Nat):(bs l).extract k l.length=bs (l.drop k):=by apply ByteArray.ext;rw[je1];apply Array.ext';simp[bs];exact qc0 ot
def Mf{w:bx}{rb:Nat}{l:bw}{n:Int}(h:Rd w rb (bs l) n 0)(a:l.length<=maxLen)(k:Nat)(hk:k<=l.length) :
 Calls prog 232 #[.po rb,.i k] w λr w'=>r =.returned (.string (bs (l.take k)))/\Rd w' rb (bs (l.drop k)) n 0/\cm w w' (some rb):=by
 have⟨b,c,d,e,f,g⟩:=h.cells;have j:=eQ l;have H:=jh h;rw[<-TM l k hk,<-TL l k];clear h;generalize bs l=s at *;unfold maxLen at a;go_enter func232,ntmps232;go_wp2;go_ret;exact⟨rfl,H.set0 _,dY (bM _ _) _ _ _⟩
def Me{w:bx}{rb:Nat}{l:bw}{n:Int}(h:Rd w rb (bs l) n 0)(f:l.length<=maxLen)(k:Int)(hk:l.length<k) :
 Calls prog 232 #[.po rb,.i k] w λr w'=>r =.returned (.string ⟨#[]⟩)/\Rd w' rb (bs l) n 1/\cm w w' (some rb):=by
 have⟨g,j,m,t,u,v⟩:=h.cells;have A:=eQ l;have H:=jh h;clear h;generalize bs l=s at *;unfold maxLen at f;go_enter func232,ntmps232;go_wp2_with fail;refine (lI H 1).mono ?_;rintro e w' ⟨rfl,a,b⟩;have⟨o,p,q,x,y,z⟩:=a.cells;have c:=jh a;have d:=jh b;clear a b;go_wp2;go_ret;exact⟨rfl,c,d⟩
def wO{w:bx}{rb:Nat}{s:bo}{n x:Int}(h:Rd w rb s n x)(a:s.size<=maxLen)(b:x≠0)(k:Int) :
 Calls prog 232 #[.po rb,.i k] w λr w'=>r =.returned (.string ⟨#[]⟩)/\w'=w:=by
 have⟨c,d,f,g,j,l⟩:=h.cells;have H:=jh h;clear h;unfold maxLen at a
 by_cases m:(s.size:Int)<k
 .go_enter func232,ntmps232;go_wp2_with fail;refine (oG H b 1).mono ?_;rintro e w' ⟨rfl,rfl⟩;go_wp2;go_ret;exact⟨rfl,rfl⟩
 .go_enter func232,ntmps232;go_wp2;go_ret;exact⟨rfl,rfl⟩
def jB{w:bx}{rb:Nat}{b:UInt8}{l:bw}{n:Int}(h:Rd w rb (bs (b::l)) n 0)(f:(b::l).length<=maxLen) :
 Calls prog 227 #[.po rb] w λr w'=>r =.returned (.i b.toNat)/\Rd w' rb (bs l) n 0/\cm w w' (some rb):=by
 have c:Calls prog 232 #[.po rb,.i 1] w λr w'=>r =.returned (.string (bs [b]))/\Rd w' rb (bs l) n 0/\cm w w' (some rb):=Mf h f 1 ot;have k:=jh c;have m:(bs [b]).toList=[b]:=by simp[bs]
 have q:(b.toNat:Int)<=255:=by have:=b.toNat_lt;omega
 have o:(bs [b]).size=1:=rfl;have p:∀h,(bs [b])[0]'h=b:=λ_=>rfl;clear h f c;generalize bs [b]=s at *;go_enter func227,ntmps227;go_wp2_with fail;refine k.mono ?_;rintro e w' ⟨rfl,a,d⟩;have g:=jh a;have j:=jh d;clear a d;go_wp2;go_ret;exact⟨rfl,g,j⟩
def uC{w:bx}{rb:Nat}{n:Int}(h:Rd w rb (bs []) n 0) :
 Calls prog 227 #[.po rb] w λr w'=>r =.returned (.i 0)/\Rd w' rb (bs []) n 1/\cm w w' (some rb):=by
 have f:=jh (Me h ot 1 ot);clear h;go_enter func227,ntmps227;go_wp2_with fail;refine f.mono ?_;rintro e w' ⟨rfl,a,b⟩;have c:=jh a;have d:=jh b;clear a b;go_wp2;go_ret;exact⟨rfl,c,d⟩
def Hl{w:bx}{rb:Nat}{s:bo}{n x:Int}(h:Rd w rb s n x)(b:s.size<=maxLen)(c:x≠0) :
 Calls prog 227 #[.po rb] w λr w'=>r =.returned (.i 0)/\w'=w:=by
 have a:=jh (wO h b c 1);clear h;go_enter func227,ntmps227;go_wp2_with fail;refine a.mono ?_;rintro e w' ⟨rfl,rfl⟩;go_wp2;go_ret;exact⟨rfl,rfl⟩
def DL(w:bx):Calls prog 233 #[.int .u64 1152921504606846976] w λr w'=>r =.returned (.i 61)/\w'=w:=by
 go_enter func233,ntmps233
 go_wp2
 go_ret;exact Lf.lX vA rfl
def numTail:Nat->Nat->Nat->UInt8->bw->Option (Nat×UInt8×bw)
 | 0,_,size,last,l=>if last.toNat<128 then some (size,last,l)else none
 | k+1,sh,size,last,l=>if last.toNat<128 then some (size,last,l)else
  match l with
  | []=>none
  | b::l=>numTail k (sh+7) (size+b.toNat % 128*2 ^ sh) b l
def wK(k sh b:Nat)(a:UInt8)(l:bw)(h:a.toNat<128):numTail k sh b a l=some (b,a,l):=by
 cases k<;>rw[numTail.eq_def]<;>simp[h]
def zR(k sh b:Nat)(a:UInt8)(h:¬a.toNat<128):numTail (k+1) sh b a []=none:=by rw[numTail.eq_def];simp[h]
def xX(k sh c:Nat)(a b:UInt8)(l:bw)(h:¬a.toNat<128):numTail (k+1) sh c a (b::l)=numTail k (sh+7) (c+b.toNat % 128*2 ^ sh) b l:=by rw[numTail.eq_def];simp[h]
def pNum:bw->Option (Int×bw)
 | []=>none
 | f::l=>match numTail 8 6 (f.toNat % 64) f l with
  | none=>none
  | some (size,last,l')=>if (128<=f.toNat/\last.toNat=0)\/1152921504606846976<size\/(f.toNat / 64 % 2=1/\size=0)then none
   else some (if f.toNat / 64 % 2=1 then -(size:Int)else size,l')
def yE{a:UInt8}{n:Nat}(h:a.toNat=n):a=n.toUInt8:=by apply UInt8.toNat_inj.1;rw[h];have:=a.toNat_lt;show n=n % 256;omega
def CX(k:Nat):∀(sh e:Nat) (f:UInt8) (l:bw) (d:Nat) (b:UInt8) (i:bw),numTail k sh e f l=some (d,b,i) ->
 ∃m,d=e+m*2 ^ sh/\m<128 ^ k/\((f.toNat<128/\m=0/\b=f/\i=l)\/(128<=f.toNat/\(b.toNat≠0->m≠0/\f::l=wD (f.toNat - 128) m++i))):=by
 induction k with
 | zero =>
  intro sh e f l d b i h;rw[numTail]at h
  by_cases g:f.toNat<128
  .rw[if_pos g]at h;simp at h;obtain⟨rfl,rfl,rfl⟩:=h;exact⟨0,ot,ot,.inl ⟨g,rfl,rfl,rfl⟩⟩
  .rw[if_neg g]at h;simp at h
 | succ k v =>
  intro sh e f l d b i h
  by_cases g:f.toNat<128
  .rw[wK _ _ _ _ _ g]at h;simp at h;obtain⟨rfl,rfl,rfl⟩:=h;exact⟨0,ot,by have:=Nat.pow_pos (n:=k+1) (show 0<128 by omega);omega,.inl ⟨g,rfl,rfl,rfl⟩⟩
  .cases l with
   | nil=>rw[zR _ _ _ _ g]at h;simp at h
   | cons c y =>
    rw[xX _ _ _ _ _ _ g]at h;have⟨j,u,x,t⟩:=v _ _ _ _ _ _ _ h;have w:=c.toNat_lt;refine⟨c.toNat % 128+128*j,?_,?_,.inr ⟨od,λs=>?_⟩⟩
    .rw[u,Nat.pow_add,ja1,qd6];congr 2;rw[jc1 128 j,Nat.mul_assoc];congr 1;rw[jc1]
    .rw[Nat.pow_succ];omega
    .rcases t with⟨r,o,q,p⟩|⟨r,o⟩
     .subst o;subst q;subst p;refine⟨od,?_⟩;rw[wD,oa,show (b.toNat % 128+128*0) % 128=b.toNat from by omega,show (b.toNat % 128+128*0) / 128=0 from by omega,wD,if_pos rfl];rw[<-yE (a:=b) rfl,<-yE (a:=f) od];rfl
     .have⟨q,p⟩:=o s;refine⟨od,?_⟩;rw[wD,oa,show (c.toNat % 128+128*j) % 128=c.toNat - 128 from by omega,show (c.toNat % 128+128*j) / 128=j from by omega,p];rw[<-yE (a:=f) od];rfl
def oQ{l p:bw}{n:Int}(h:pNum l=some (n,p)):(-1152921504606846976<=n/\n<=1152921504606846976)/\l=pE n++p:=by
 cases l with
 | nil=>simp[pNum]at h
 | cons f l =>
  rw[pNum]at h
  cases j:numTail 8 6 (f.toNat % 64) f l with
  | none=>rw[j]at h;simp at h
  | some r =>
   have⟨size,c,y⟩:=r;rw[j]at h;simp only at h
   by_cases o:(128<=f.toNat/\c.toNat=0)\/1152921504606846976<size\/(f.toNat / 64 % 2=1/\size=0)
   .rw[if_pos o]at h;simp at h
   rw[if_neg o]at h;simp only[qk,kh]at h;obtain⟨e,rfl⟩:=h;have⟨m,u,x,t⟩:=CX 8 _ _ _ _ _ _ _ j;have w:=f.toNat_lt;have i:(2:Nat) ^ 6=64:=rfl;rw[i]at u;have s:(-1152921504606846976<=n/\n<=1152921504606846976):=by split at e<;>omega
   have k:n.natAbs=size:=by split at e<;>omega
   have b:(if n<0 then 64 else 0)=f.toNat / 64 % 2*64:=by
    by_cases d:f.toNat / 64 % 2=1
    .rw[if_pos d]at e;rw[oc];omega
    .rw[if_neg d]at e;rw[oa];omega
   refine⟨s,?_⟩;unfold pE;rw[b,k,show size % 64=f.toNat % 64 from by omega,show size / 64=m from by omega];rcases t with⟨d,g,v,q⟩|⟨d,g⟩
   .subst g;subst q;rw[show f.toNat / 64 % 2*64+f.toNat % 64=f.toNat from by omega,wD,if_pos rfl,<-yE (a:=f) rfl];rfl
   .rw[show f.toNat / 64 % 2*64+f.toNat % 64=f.toNat - 128 from by omega];exact (g od).2
def uT (w:bx) (rb:Nat) (n:Int) (l:bw) (r:Ending) (w':bx):Prop :=
 cm w w' (some rb)/\match pNum l with
  | some (m,l')=>r =.returned (.i m)/\Rd w' rb (bs l') n 0
  | none=>r =.returned (.i 0)/\∃s,s.size<=maxLen/\Rd w' rb s n 1
def xY{w:bx}{rb:Nat}{s:bo}{n x:Int}(h:Rd w rb s n x)(b:s.size<=maxLen)(c:x≠0) :
 Calls prog 228 #[.po rb] w λr w'=>r =.returned (.i 0)/\w'=w:=by
 have a:=jh (Hl h b c);have d:bits .and .i64 0 64=0:=ov
 have f:bits .and .i64 0 63=0:=ov
 clear h;go_enter func228,ntmps228;go_wp2_with fail;refine a.mono ?_;rintro e w' ⟨rfl,rfl⟩;go_wp2_with fail;refine je4 1 ?_;rw[ka1];go_wp2;go_ret;exact⟨rfl,rfl⟩
def JX{w:bx}{rb:Nat}{n:Int}(h:Rd w rb (bs []) n 0) :
 Calls prog 228 #[.po rb] w (uT w rb n []):=by
 have f:=jh (uC h);have g:bits .and .i64 0 64=0:=ov
 have i:bits .and .i64 0 63=0:=ov
 clear h;go_enter func228,ntmps228;go_wp2_with fail;refine f.mono ?_;rintro e j ⟨rfl,a,b⟩;have c:=jh a;have d:=jh b;clear a b;go_wp2_with fail;refine je4 1 ?_;rw[ka1];go_wp2;go_ret;exact⟨d,rfl,_,Up,c⟩
def AR (w:bx) (rb:Nat) (n:Int) (f:UInt8) (l:bw) (sz la sh:cg) (wr:bx):Prop :=
 cm w wr (some rb)/\((∃(k size:Nat) (last:UInt8) (l1:bw),k<=8/\size<2 ^ (6+7*(8 - k))/\l1.length<=maxLen/\sz =.i size/\la =.i last.toNat/\sh =.i (6+7*(8 - k):Nat)/\Rd wr rb (bs l1) n 0 /\
  numTail k (6+7*(8 - k)) size last l1=numTail 8 6 (f.toNat % 64) f l/\(128<=last.toNat->128<=f.toNat)) \/
  (∃(size k:Nat) (s:bo),size<9223372036854775808/\k<=8/\sz =.i size/\la =.i 0/\sh =.i (6+7*(8 - k):Nat)/\s.size<=maxLen/\Rd wr rb s n 1/\numTail 8 6 (f.toNat % 64) f l=none/\128<=f.toNat))
def Kb(k:Nat)(hk:k<=8):2 ^ (6+7*(8 - k))<=4611686018427387904:=by
 have : ∀k:Fin 9,2 ^ (6+7*(8 - k.val))<=4611686018427387904:=vA
 exact this ⟨k,od⟩
def KS(x:Nat)(h:x<9223372036854775808):wrap64 (x:Int)=(x:Int):=by unfold wrap64;omega
def Xt(sh size x:Nat)(h:size<2 ^ sh)(hx:x<128)(hs:sh<=55):bits .or .i64 (size:Int) (wrap64 ((x:Int)*2 ^ sh))=((size+x*2 ^ sh:Nat):Int)/\size+x*2 ^ sh<2 ^ (sh+7):=by
 have hp:2 ^ sh<=36028797018963968:=by
  have : (36028797018963968:Nat)=2 ^ 55:=vA
  rw[this];exact Nat.pow_le_pow_right od hs
 have hp0:0<2 ^ sh:=Nat.pow_pos od;have hxs:x*2 ^ sh+2 ^ sh<=128*2 ^ sh:=by have:=qh1 (2 ^ sh) (show x+1<=128 by omega);rw[ja1,Nat.one_mul]at this;exact this
 have e:((x:Int)*2 ^ sh)=((x*2 ^ sh:Nat):Int):=by push_cast;rfl
 rw[e,KS _ od,oO _ _ od od];have h2:=Nat.two_pow_add_eq_or_of_lt h x;rw[Nat.or_comm,jc1 x,<-h2];refine⟨by congr 1;omega,?_⟩;rw[Nat.pow_add,jc1];have : (2:Nat) ^ 7=128:=rfl;rw[this];omega
def Ea{w b:bx}{rb:Nat}{n:Int}{f:UInt8}{l:bw}(e:(f::l).length<=maxLen)(h:Rd b rb (bs l) n 0)(d:cm w b (some rb)){a:Int}(c:a=((f.toNat % 64:Nat):Int)) :
 AR w rb n f l (.i a) (.i f.toNat) (.i 6) b:=by
 subst c;exact⟨d,.inl ⟨8,f.toNat % 64,f,l,od,by show _<64;omega,by simp at e;omega,rfl,rfl,rfl,h,rfl,λh=>h⟩⟩
def Ib{w wr j:bx}{rb:Nat}{n:Int}{f b d:UInt8}{l l2:bw}{k c sh:Nat}(p:sh=6+7*(8 - (k+1)))(hk:k+1<=8)(g:c<2 ^ sh)(o:(b::l2).length<=maxLen)
 (hN:numTail (k+1) sh c d (b::l2)=numTail 8 6 (f.toNat % 64) f l) (hlast:128<=d.toNat) (hf:128<=f.toNat) (hg:cm w wr (some rb)) (h:Rd j rb (bs l2) n 0) (hg2:cm wr j (some rb)) {a:Int} (ha:a=bits .or .i64 (c:Int) (wrap64 (((b.toNat % 128:Nat):Int)*2 ^ sh))) :
 AR w rb n f l (.i a) (.i b.toNat) (.i ((sh:Int)+7)) j:=by
 have m:=Xt sh c (b.toNat % 128) g od od;rw[m.1]at ha;subst ha;rw[xX _ _ _ _ _ _ od]at hN;have e:6+7*(8 - k)=sh+7:=od
 exact⟨fF hg hg2,.inl ⟨k,_,b,l2,od,by rw[e];exact m.2,by simp at o;omega,rfl,rfl,by rw[e];rfl,h,by rw[e];exact hN,λ_=>hf⟩⟩
def Ia{w wr j:bx}{rb:Nat}{n:Int}{f c:UInt8}{l:bw}{k b sh:Nat}(g:sh=6+7*(8 - (k+1)))(hk:k+1<=8)(o:b<2 ^ sh)
 (hN:numTail (k+1) sh b c []=numTail 8 6 (f.toNat % 64) f l) (hlast:128<=c.toNat) (hf:128<=f.toNat) (hg:cm w wr (some rb)) (h:Rd j rb (bs []) n 1) (hg2:cm wr j (some rb)) {a:Int} (ha:a=bits .or .i64 (b:Int) 0) :
 AR w rb n f l (.i a) (.i 0) (.i ((sh:Int)+7)) j:=by
 have m:=Kb (k+1) hk;rw[<-g]at m;have d:=oO b 0 od od;rw[Nat.or_zero]at d;rw[show ((0:Nat):Int)=0 from rfl]at d;rw[d]at ha;subst ha;rw[zR _ _ _ _ od]at hN;have e:6+7*(8 - k)=sh+7:=od
 exact⟨fF hg hg2,.inr ⟨b,k,_,od,od,rfl,rfl,by rw[e];rfl,Up,h,hN.symm,hf⟩⟩
def eD{w w':bx}{rb:Nat}{n:Int}{l:bw}{s:bo}(b:pNum l=none)(a:cm w w' (some rb))(c:s.size<=maxLen)(h:Rd w' rb s n 1):uT w rb n l (.returned (.i 0)) w':=by refine⟨a,?_⟩;rw[b];exact⟨rfl,s,c,h⟩
def kY{w w':bx}{rb:Nat}{n m m':Int}{l a:bw}(d:pNum l=some (m,a))(c:m'=m)(b:cm w w' (some rb))(h:Rd w' rb (bs a) n 0):uT w rb n l (.returned (.i m')) w':=by subst c;refine⟨b,?_⟩;rw[d];exact⟨rfl,h⟩
def T9{w:bx}{rb:Nat}{n:Int}{f:UInt8}{l:bw}(h:Rd w rb (bs (f::l)) n 0)(N:(f::l).length<=maxLen) :
 Calls prog 228 #[.po rb] w (uT w rb n (f::l)):=by
 have Z:=jh (jB h N);have hf:=f.toNat_lt;have Q:=VZ f.toNat od;rcases (show f.toNat / 64 % 2=0\/f.toNat / 64 % 2=1 by omega)with q|q
 case' inl=>rw[q,show (((0:Nat)*64:Nat):Int)=0 from rfl]at Q
 case' inr=>rw[q,show (((1:Nat)*64:Nat):Int)=64 from rfl]at Q
 all_goals
  have a2:=Le f.toNat od;have y:=jh q;have HL:=jh N;clear h q N;go_enter func228,ntmps228;go_wp2_with fail;refine Z.mono ?_;rintro e w1 ⟨rfl,F,G⟩;have Y:=jh F;have I:=jh G;clear F G;go_wp2_with fail;go_loopw [5,6,7] (λsz W sh wr=>AR w rb n f l sz W sh wr) (λsz W sh wr=>(2*(100 - intOf sh)).toNat)
  case atStart=>exact Ea HL Y I (by push_cast;rfl)
  case round =>
   have⟨z,hr⟩:=hrel;rcases hr with⟨k,size,g,H,hk,t,p,rfl,rfl,rfl,hR,hN,hF⟩|⟨size,k,s,t,hk,rfl,rfl,rfl,S,hR,hN,hF⟩
   .by_cases r:128<=g.toNat
    .have hF:=hF r
     cases k with
     | zero =>
      have K:Hid (pNum (f::l)=none):=by show _=_;rw[numTail.eq_def]at hN;simp[show ¬g.toNat<128 by omega]at hN;rw[pNum,<-hN]
      have i:=jh (lI hR 1);have o:=jh z;have u:Hid ((bs H).size<=maxLen):=by show _<=_;rw[eQ];exact p
      clear hR hN t p z hF;go_wp2_with (go_at_call 233;refine (DL _).mono ?_;rintro e X ⟨rfl,rfl⟩);refine i.mono ?_;rintro e x ⟨rfl,v,a⟩;have m:=jh v;have d:=jh a;clear v a;go_wp2;go_ret;exact eD K (fF o d) u m
     | succ k =>
      have⟨sh,A⟩:∃sh,sh=6+7*(8 - (k+1)):=⟨_,rfl⟩;rw[<-A]at hN t|-;have T:6<=sh:=od
      have U:sh<=55:=od
      have⟨D,P,E,J,O,o⟩:=wk A hN t p hF z
      cases H with
      | nil =>
       have M:=jh (uC hR);have a4:bits .and .i64 0 127=0:=ov
       clear A hR hN t p hF z;go_wp2_with (go_at_call 233;refine (DL _).mono ?_;rintro e X ⟨rfl,rfl⟩);refine M.mono ?_;rintro e x ⟨rfl,v,a⟩;have m:=jh v;have d:=jh a;clear v a;go_wp2;go_roundw
       case rel=>exact Ia D hk E P r O o m d ot
       case measure=>simp[intOf];omega
      | cons b l2 =>
       have M:=jh (jB hR p);have a4:=Jc b.toNat (by have:=b.toNat_lt;omega);clear A hR hN t p hF z;go_wp2_with (go_at_call 233;refine (DL _).mono ?_;rintro e X ⟨rfl,rfl⟩);refine M.mono ?_;rintro e x ⟨rfl,v,a⟩;have m:=jh v;have d:=jh a;clear v a;go_wp2;go_roundw
       case rel=>exact Ib D hk E J P r O o m d (by push_cast;rfl)
       case measure=>simp[intOf];omega
    .rw [wK _ _ _ _ _ od]at hN;have j:Hid (pNum (f::l)=if (128<=f.toNat/\g.toNat=0)\/1152921504606846976<size\/(f.toNat / 64 % 2=1/\size=0)then none else some (if f.toNat / 64 % 2=1 then -(size:Int)else size,H)):=by show _=_;rw[pNum,<-hN]
     have hp:=Kb k hk;have⟨i,C,o⟩:=we (lI hR 1) hR z;have u:Hid ((bs H).size<=maxLen):=by show _<=_;rw[eQ];exact p
     have V:size<4611686018427387904:=od
     clear hR hN t p z hF hp hk
     by_cases h3:1152921504606846976<size
     .by_cases F:128<=f.toNat
      .by_cases v:g.toNat=0
       .go_wp2_with fail;refine i.mono ?_;rintro e x ⟨rfl,c,a⟩;have m:=jh c;have d:=jh a;clear c a;go_wp2;go_ret;exact eD (by rw[j.out,oc]) (fF o d) u m
       .go_wp2_with fail;refine i.mono ?_;rintro e x ⟨rfl,c,a⟩;have m:=jh c;have d:=jh a;clear c a;go_wp2;go_ret;exact eD (by rw[j.out,oc]) (fF o d) u m
      .go_wp2_with fail;refine i.mono ?_;rintro e x ⟨rfl,c,a⟩;have m:=jh c;have d:=jh a;clear c a;go_wp2;go_ret;exact eD (by rw[j.out,oc]) (fF o d) u m
     .by_cases h4:size=0
      .by_cases F:128<=f.toNat
       .by_cases v:g.toNat=0
        .go_wp2_with fail;refine i.mono ?_;rintro e x ⟨rfl,c,a⟩;have m:=jh c;have d:=jh a;clear c a;go_wp2;go_ret;exact eD (by rw[j.out,oc]) (fF o d) u m
        .have L:((g.toNat:Int)==0)=false:=by simp;omega
         go_wp2_with fail;have B:=y.out
         first
         | (go_ret
            exact kY (by rw[j.out,oa]) Vc o C)
         | (refine i.mono ?_;rintro e x ⟨rfl,c,a⟩
            have m:=jh c;have d:=jh a;clear c a;go_wp2;go_ret;exact eD (by rw[j.out,oc]) (fF o d) u m)
       .go_wp2_with fail;have B:=y.out
        first
        | (go_ret
           exact kY (by rw[j.out,oa]) Vc o C)
        | (refine i.mono ?_;rintro e x ⟨rfl,c,a⟩
           have m:=jh c;have d:=jh a;clear c a;go_wp2;go_ret;exact eD (by rw[j.out,oc]) (fF o d) u m)
      .have aa:((size:Int)==0)=false:=by simp;omega
       have R:-(size:Int)≠0:=od
       by_cases F:128<=f.toNat
       .by_cases v:g.toNat=0
        .go_wp2_with fail;refine i.mono ?_;rintro e x ⟨rfl,c,a⟩;have m:=jh c;have d:=jh a;clear c a;go_wp2;go_ret;exact eD (by rw[j.out,oc]) (fF o d) u m
        .have L:((g.toNat:Int)==0)=false:=by simp;omega
         go_wp2_with fail;have B:=y.out;go_ret;exact kY (by rw[j.out,oa]) Vc o C
       .go_wp2_with fail;have B:=y.out;go_ret;exact kY (by rw[j.out,oa]) Vc o C
   .have K:Hid (pNum (f::l)=none):=by
     show _=_;rw[pNum,hN]
    have⟨i,C,o,u⟩:=JT (oG hR ov 1) hR z S;clear hR hN S z;have ab:(128:Int)<=f.toNat:=od
    go_wp2_with fail;refine i.mono ?_;rintro e x ⟨rfl,rfl⟩;go_wp2;go_ret;exact eD K o u C
def rZ{w:bx}{rb:Nat}{n:Int}{l:bw}(h:Rd w rb (bs l) n 0)(a:l.length<=maxLen) :
 Calls prog 228 #[.po rb] w (uT w rb n l):=by
 cases l with
 | nil=>exact JX h
 | cons f l =>
  exact T9 h a
def kR (l:bw):Option (Nat×bw):=match pNum l with
 | some (m,l')=>if m<0 then none else some (m.toNat,l')
 | none=>none
def A8{w:bx}{rb:Nat}{n:Int}{l k:bw}{m:Nat}(h:Rd w rb (bs l) n 0)(g:l.length<=maxLen)(a:kR l=some (m,k)) :
 Calls prog 234 #[.po rb] w λr w'=>r =.returned (.i m)/\cm w w' (some rb)/\Rd w' rb (bs k) n 0:=by
 have s:=jh (rZ h g);clear h g;unfold kR at a
 cases c:pNum l with
 | none=>rw[c]at a;simp at a
 | some r =>
  have⟨x,t⟩:=r;rw[c]at a;simp only at a
  by_cases j:x<0
  .rw[if_pos j]at a;simp at a
  .rw[if_neg j]at a;simp only[qk,kh]at a;obtain⟨rfl,rfl⟩:=a;have p:=jh c;clear c;have d:((x.toNat:Nat):Int)=x:=by omega
   rw[d];go_enter func234,ntmps234;go_wp2_with fail;refine s.mono ?_;rintro e u ⟨f,b⟩;rw[p.out]at b;obtain⟨rfl,b⟩:=b;have q:=jh b;have o:=jh f;clear b f;go_wp2;go_ret;exact⟨rfl,o,q⟩
def Gp{w:bx}{rb:Nat}{n:Int}{l:bw}(h:Rd w rb (bs l) n 0)(t:l.length<=maxLen)(b:kR l=none) :
 Calls prog 234 #[.po rb] w λr w'=>r =.returned (.i 0)/\cm w w' (some rb)/\∃s,s.size<=maxLen/\Rd w' rb s n 1:=by
 have v:=jh (rZ h t);have g:∀x j,pNum l=some (x,j)->j.length<=maxLen:=λx j e=>by have:=(oQ e).2;rw[this,qT]at t;omega
 clear h t;unfold kR at b
 cases c:pNum l with
 | none =>
  have o:=jh c;clear c b;go_enter func234,ntmps234;go_wp2_with fail;refine v.mono ?_;rintro e A ⟨d,a⟩;rw[o.out]at a;obtain⟨rfl,a⟩:=a;have p:=jh a;have k:=jh d;clear a d;go_wp2;go_ret;exact⟨rfl,k,p⟩
 | some r =>
  have⟨x,j⟩:=r;have u:=g x j c;rw[c]at b;simp only at b
  by_cases z:x<0
  .have o:=jh c;clear c b;go_enter func234,ntmps234;go_wp2_with fail;refine v.mono ?_;rintro e A ⟨d,a⟩;rw[o.out]at a;obtain⟨rfl,a⟩:=a;have p:=jh a;have k:=jh d;clear a d;go_wp2_with fail;refine (lI p 1).mono ?_;rintro e B ⟨rfl,y,f⟩;have q:=jh y;have m:=jh f;clear y f;go_wp2;go_ret;exact⟨rfl,fF k m,_,by rw[eQ];exact u,q⟩
  .rw[if_neg z]at b;simp at b
def Gq{w:bx}{rb:Nat}{s:bo}{n x:Int}(h:Rd w rb s n x)(b:s.size<=maxLen)(c:x≠0) :
 Calls prog 234 #[.po rb] w λr w'=>r =.returned (.i 0)/\w'=w:=by
 have a:=jh (xY h b c);clear h;go_enter func234,ntmps234;go_wp2_with fail;refine a.mono ?_;rintro e w' ⟨rfl,rfl⟩;go_wp2;go_ret;exact⟨rfl,rfl⟩
def yf (l:bw):Option (bw×bw):=match kR l with
 | some (m,l')=>if 200<m\/l'.length<m then none else some (l'.take m,l'.drop m)
 | none=>none
def wL{l c:bw}{m:Nat}(h:kR l=some (m,c)):c.length<=l.length:=by
 unfold kR at h
 cases a:pNum l with
 | none=>rw[a]at h;simp at h
 | some r =>
  have⟨x,d⟩:=r;have:=(oQ a).2;rw[a]at h;simp only at h
  by_cases b:x<0
  .rw[if_pos b]at h;simp at h
  .rw[if_neg b]at h;simp only[qk,kh]at h;obtain⟨_,rfl⟩:=h;rw[this,qT];omega
def Vv{w:bx}{rb:Nat}{n:Int}{l s v:bw}(h:Rd w rb (bs l) n 0)(t:l.length<=maxLen)(a:yf l=some (s,v)) :
 Calls prog 229 #[.po rb] w λr w'=>r =.returned (.string (bs s))/\cm w w' (some rb)/\Rd w' rb (bs v) n 0:=by
 unfold yf at a
 cases c:kR l with
 | none=>rw[c]at a;simp at a
 | some r =>
  have⟨m,o⟩:=r;have z:=jh (A8 h t c);have i:=wL c;rw[c]at a;simp only at a
  by_cases g:200<m\/o.length<m
  .rw[if_pos g]at a;simp at a
  rw[if_neg g]at a;simp only[qk,kh]at a;obtain⟨rfl,rfl⟩:=a;have A:(m:Int)<=200:=od
  have k:m<=o.length:=od
  have j:o.length<=maxLen:=od
  clear h t c i g;go_enter func229,ntmps229;go_wp2_with fail;refine z.mono ?_;rintro e B ⟨rfl,q,u⟩;have y:=jh u;have x:=jh q;clear u q;go_wp2_with fail;refine (Mf y j m k).mono ?_;rintro e C ⟨rfl,p,b⟩;have f:=jh p;have d:=jh b;clear p b;go_wp2;go_ret;exact⟨rfl,fF x d,f⟩
def Vu{w:bx}{rb:Nat}{n:Int}{l:bw}(h:Rd w rb (bs l) n 0)(u:l.length<=maxLen)(j:yf l=none) :
 Calls prog 229 #[.po rb] w λr w'=>r =.returned (.string ⟨#[]⟩)/\cm w w' (some rb)/\∃s,s.size<=maxLen/\Rd w' rb s n 1:=by
 unfold yf at j
 cases o:kR l with
 | none =>
  have t:=jh (Gp h u o);clear h u j o;go_enter func229,ntmps229;go_wp2_with fail;refine t.mono ?_;rintro e B ⟨rfl,d,s,A,f⟩;have k:=jh f;have p:=jh d;clear f d;go_wp2_with fail;refine (wO k A ov 0).mono ?_;rintro e C ⟨rfl,rfl⟩;go_wp2;go_ret;exact⟨rfl,p,s,A,k⟩
 | some r =>
  have⟨m,y⟩:=r;have t:=jh (A8 h u o);have v:=wL o;have c:y.length<=maxLen:=od
  rw[o]at j;simp only at j
  by_cases D:200<m\/y.length<m
  .clear h u o v j
   by_cases z:200<m
   .have i:(200:Int)<m:=by omega
    go_enter func229,ntmps229;go_wp2_with fail;refine t.mono ?_;rintro e B ⟨rfl,d,f⟩;have k:=jh f;have p:=jh d;clear f d;go_wp2_with fail;refine (lI k 1).mono ?_;rintro e C ⟨rfl,q,a⟩;have b:=jh q;have g:=jh a;clear q a;go_wp2_with fail;refine (wO b (by rw[eQ];exact c) ov m).mono ?_;rintro e E ⟨rfl,rfl⟩;go_wp2;go_ret;exact⟨rfl,fF p g,_,by rw[eQ];exact c,b⟩
   .have i:(m:Int)<=200:=by omega
    have x:(y.length:Int)<m:=od
    go_enter func229,ntmps229;go_wp2_with fail;refine t.mono ?_;rintro e B ⟨rfl,d,f⟩;have k:=jh f;have p:=jh d;clear f d;go_wp2_with fail;refine (Me k c m x).mono ?_;rintro e C ⟨rfl,q,a⟩;have b:=jh q;have g:=jh a;clear q a;go_wp2;go_ret;exact⟨rfl,fF p g,_,by rw[eQ];exact c,b⟩
  .rw[if_neg D]at j;simp at j
def Rk{w:bx}{rb:Nat}{n:Int}{b:UInt8}{l:bw}(h:Rd w rb (bs (b::l)) n 0)(c:(b::l).length<=maxLen)(k:Lf.gD b.toNat) :
 Calls prog 230 #[.po rb] w λr w'=>r =.returned (.i b.toNat)/\cm w w' (some rb)/\Rd w' rb (bs l) n 0:=by
 have j:=jh (jB h c);clear h c;go_enter func230,ntmps230;go_wp2_with fail;refine j.mono ?_;rintro e m ⟨rfl,d,a⟩;have g:=jh d;have f:=jh a;clear d a;go_wp2_with fail;refine (Lf.rQ _ _).mono ?_;rintro e o ⟨rfl,rfl⟩;go_wp2;go_ret;exact⟨rfl,f,g⟩
def UI{w:bx}{rb:Nat}{n:Int}{l:bw}(h:Rd w rb (bs l) n 0)(g:l.length<=maxLen)(q:∀b v,l=b::v->Lf.gD b.toNat=false) :
 Calls prog 230 #[.po rb] w λr w'=>(∃p:Int,r =.returned (.i p))/\cm w w' (some rb)/\∃s,s.size<=maxLen/\Rd w' rb s n 1:=by
 cases l with
 | nil =>
  have o:=jh (uC h);have u:Lf.gD 0=false:=ov
  clear h g q;go_enter func230,ntmps230;go_wp2_with fail;refine o.mono ?_;rintro e x ⟨rfl,d,a⟩;have f:=jh d;have j:=jh a;clear d a;go_wp2_with fail;refine (Lf.rQ _ _).mono ?_;rintro e y ⟨rfl,rfl⟩;go_wp2_with fail;refine (oG f ov 1).mono ?_;rintro e z ⟨rfl,rfl⟩;go_wp2;go_ret;exact⟨⟨0,rfl⟩,j,_,Up,f⟩
 | cons b l =>
  have o:=jh (jB h g);have u:=q b l rfl;have HL:Hid (l.length<=maxLen):=by show _<=_;simp at g;omega
  clear h g q;go_enter func230,ntmps230;go_wp2_with fail;refine o.mono ?_;rintro e x ⟨rfl,d,a⟩;have f:=jh d;have j:=jh a;clear d a;go_wp2_with fail;refine (Lf.rQ _ _).mono ?_;rintro e y ⟨rfl,rfl⟩;go_wp2_with fail;refine (lI f 1).mono ?_;rintro e z ⟨rfl,t,c⟩;have m:=jh t;have k:=jh c;clear t c;go_wp2;go_ret;exact⟨⟨_,rfl⟩,fF j k,_,by rw[eQ];exact HL,m⟩
def zm (f:Nat->bw->Except Int (Tr×Nat×bw)):Nat->Nat->bw->Except Int (aE×Nat×bw)
 | 0,n,l=>.ok ([],n,l)
 | k+1,n,l=>match f n l with
  | .error e=>.error e
  | .ok (t,n',l')=>match zm f k n' l' with
   | .error e=>.error e
   | .ok (ts,n'',l'')=>.ok (t::ts,n'',l'')
def pQ (f:Nat->bw->Except Int (Tr×Nat×bw)) (n:Nat) (l:bw):Except Int (aE×Nat×bw) :=
 match kR l with
 | none=>.error 1
 | some (c,l')=>zm f c n l'
def pNode:Nat->Nat->bw->Except Int (Tr×Nat×bw)
 | 0,_,_=>.error 4
 | d+1,n,l=>if n=300 then .error 4 else match l with
  | []=>.error 1
  | b::l =>
   if b.toNat=0 then match pNum l with
    | none=>.error 1
    | some (m,l')=>.ok (.nd 0 m 0 (bs []) [],n+1,l')
   else if b.toNat=1 then match yf l with
    | none=>.error 1
    | some (s,l')=>.ok (.nd 1 0 0 (bs s) [],n+1,l')
   else if b.toNat=2 then match l with
    | []=>.error 1
    | p::l=>if Lf.gD p.toNat=false then .error 1 else match pQ (λn l=>pNode d n l) (n+1) l with
     | .error e=>.error e
     | .ok (ts,n',l')=>.ok (.nd 2 0 p.toNat (bs []) ts,n',l')
   else if b.toNat=3 then match pQ (λn l=>pNode d n l) (n+1) l with
    | .error e=>.error e
    | .ok (ts,n',l')=>.ok (.nd 3 0 0 (bs []) ts,n',l')
   else .error 1
def aav(l:bw):(bs l).data.toList=l:=by simp[bs]
def sF{l d:bw}{c:Nat}(h:kR l=some (c,d)):c<=1152921504606846976/\l=pE c++d:=by
 unfold kR at h
 cases a:pNum l with
 | none=>rw[a]at h;simp at h
 | some r =>
  have⟨x,g⟩:=r;have⟨f,e⟩:=oQ a;rw[a]at h;simp only at h
  by_cases b:x<0
  .rw[if_pos b]at h;simp at h
  .rw[if_neg b]at h;simp only[qk,kh]at h;obtain⟨rfl,rfl⟩:=h;rw[Int.toNat_of_nonneg od];exact⟨od,e⟩
def zS{l s c:bw}(h:yf l=some (s,c)):s.length<=200/\l=pE s.length++s++c:=by
 unfold yf at h
 cases a:kR l with
 | none=>rw[a]at h;simp at h
 | some r =>
  have⟨m,d⟩:=r;have⟨g,e⟩:=sF a;rw[a]at h;simp only at h
  by_cases b:200<m\/d.length<m
  .rw[if_pos b]at h;simp at h
  rw[if_neg b]at h;simp only[qk,kh]at h;obtain⟨rfl,rfl⟩:=h;have f:(d.take m).length=m:=vc
  rw[f];exact⟨od,by rw[ur,qc4];exact e⟩
def Sound (d:Nat) (n:Nat) (l:bw) (t:Tr) (n':Nat) (l':bw):Prop:=l=encTr t++l'/\n'=n+t.size/\n'<=300/\bC (25 - d) t=0
def J7{d:Nat}{f:Nat->bw->Except Int (Tr×Nat×bw)}(z:∀n l t a b,n<=300->f n l =.ok (t,a,b)->Sound d n l t a b) :
 ∀(k n:Nat) (l:bw) (ts:aE) (a:Nat) (b:bw),n<=300->zm f k n l =.ok (ts,a,b)->l=encTrs ts++b/\a=n+sizes ts/\a<=300/\bG (25 - d) ts=0/\ts.length=k:=by
 intro k
 induction k with
 | zero =>
  intro n l ts a b i h;simp only[zm,jh4,kh]at h;obtain⟨rfl,rfl,rfl⟩:=h;exact⟨by simp[encTrs],by simp[sizes],i,by simp[bG],rfl⟩
 | succ k A =>
  intro n l ts a b i h;rw[zm]at h
  cases c:f n l with
  | error e=>rw[c]at h;simp at h
  | ok r =>
   have⟨t,n1,j⟩:=r;rw[c]at h;simp only at h
   cases g:zm f k n1 j with
   | error e=>rw[g]at h;simp at h
   | ok r =>
    have⟨m,C,B⟩:=r;rw[g]at h;simp only[jh4,kh]at h;obtain⟨rfl,rfl,rfl⟩:=h;have⟨o,p,q,s⟩:=z n l t n1 j i c;have⟨u,v,w,x,y⟩:=A n1 j m C B q g;refine⟨by rw[o,u,encTrs];simp,by rw[v,p,sizes];omega,w,?_,by simp[y]⟩;rw[bG,s];simpa using x
def vM(k n p:Int)(s:bo)(l:Nat)(a:Lf.rP k)(b:¬(k=2/\Lf.gD p=false))(c:Lf.qM k n p s l=false)(d:-1152921504606846976<=n/\n<=1152921504606846976)(e:s.size<=200):Lf.fD k n p s l=0:=by unfold Lf.fD;rw[if_neg (by simp[a]),if_neg b,if_neg (by simp[c]),oa,oa]
def pR{d:Nat}{f:Nat->bw->Except Int (Tr×Nat×bw)}(p:∀n l t a b,n<=300->f n l =.ok (t,a,b)->Sound d n l t a b){n:Nat}{l:bw}{ts:aE}{a:Nat}{b:bw}(hn:n<=300)
 (h:pQ f n l =.ok (ts,a,b)):l=pE ts.length++encTrs ts++b/\a=n+sizes ts/\a<=300/\bG (25 - d) ts=0:=by
 unfold pQ at h
 cases e:kR l with
 | none=>rw[e]at h;simp at h
 | some r =>
  have⟨c,q⟩:=r;have⟨s,o⟩:=sF e;rw[e]at h;have⟨g,i,j,k,m⟩:=J7 p c n q ts a b hn h;subst m;exact⟨by rw[o,g];simp,i,j,k⟩
def pU(d:Nat):d<=24->∀(n:Nat) (l:bw) (t:Tr) (u:Nat) (q:bw),n<=300->pNode d n l =.ok (t,u,q)->Sound d n l t u q:=by
 induction d with
 | zero=>intro _ n l t u q E h;simp[pNode]at h
 | succ d o =>
  intro I n l t u q E h;have o:=o od;rw[pNode.eq_def]at h;simp only at h
  by_cases g:n=300
  .rw[if_pos g]at h;simp at h
  rw[if_neg g]at h;have hF:∀(k m p:Int) (s:bo) (f:aE),Lf.fD k m p s f.length=0->bG (25 - d) f=0->bC (25 - (d+1)) (.nd k m p s f)=0:=by intro k m p s f G F;rw[bC,oa,if_neg (by simpa using G),show 25 - (d+1)+1=25 - d from by omega];exact F
  cases l with
  | nil=>simp at h
  | cons b l =>
   simp only at h
   by_cases x:b.toNat=0
   .rw[if_pos x]at h
    cases c:pNum l with
    | none=>rw[c]at h;simp at h
    | some r =>
     have⟨m,C⟩:=r;have⟨i,j⟩:=oQ c;rw[c]at h;simp only[jh4,kh]at h;obtain⟨rfl,rfl,rfl⟩:=h;refine⟨?_,by simp[Tr.size,sizes],od,?_⟩
     .rw[encTr,if_pos rfl,j,yE x];rfl
     .exact hF 0 m 0 (bs []) [] (vM _ _ _ _ _ ov ov (by rfl) i Up) (by simp[bG])
   rw[if_neg x]at h
   by_cases y:b.toNat=1
   .rw[if_pos y]at h
    cases c:yf l with
    | none=>rw[c]at h;simp at h
    | some r =>
     have⟨s,C⟩:=r;have⟨i,j⟩:=zS c;rw[c]at h;simp only[jh4,kh]at h;obtain⟨rfl,rfl,rfl⟩:=h;refine⟨?_,by simp[Tr.size,sizes],od,?_⟩
     .rw[encTr,if_neg ov,if_pos rfl,j,yE y,eQ,aav];rfl
     .exact hF 1 0 0 (bs s) [] (vM _ _ _ _ _ ov ov (by rfl) od (by rw[eQ];exact i)) (by simp[bG])
   rw[if_neg y]at h
   by_cases z:b.toNat=2
   .rw[if_pos z]at h
    cases l with
    | nil=>simp at h
    | cons p l =>
     simp only at h
     by_cases B:Lf.gD p.toNat=false
     .rw[if_pos B]at h;simp at h
     rw[if_neg B]at h
     cases c:pQ (λn l=>pNode d n l) (n+1) l with
     | error e=>rw[c]at h;simp at h
     | ok r =>
      have⟨D,H,C⟩:=r;have⟨i,j,v,w⟩:=pR o od c;rw[c]at h;simp only[jh4,kh]at h;obtain⟨rfl,rfl,rfl⟩:=h;refine⟨?_,by rw[j,Tr.size];omega,v,?_⟩
      .rw[encTr,if_neg ov,if_neg ov,if_pos rfl,i,yE z];simp only[qd0,Int.toNat_natCast];rw[<-yE (a:=p) rfl];rfl
      .exact hF 2 0 p.toNat (bs []) D (vM _ _ _ _ _ ov (by simpa using B) (by rfl) od Up) w
   rw[if_neg z]at h
   by_cases A:b.toNat=3
   .rw[if_pos A]at h
    cases c:pQ (λn l=>pNode d n l) (n+1) l with
    | error e=>rw[c]at h;simp at h
    | ok r =>
     have⟨D,H,C⟩:=r;have⟨i,j,v,w⟩:=pR o od c;rw[c]at h;simp only[jh4,kh]at h;obtain⟨rfl,rfl,rfl⟩:=h;refine⟨?_,by rw[j,Tr.size];omega,v,?_⟩
     .rw[encTr,if_neg ov,if_neg ov,if_neg ov,i,yE A];rfl
     .exact hF 3 0 0 (bs []) D (vM _ _ _ _ _ ov ov (by rfl) od Up) w
   .rw[if_neg A]at h;simp at h
def mE (l:bw):Except Int Tr:=match pNode 24 0 l with
 | .ok (t,_,l')=>if l'=[]then .ok t else .error 1
 | .error e=>.error e
def jw (T:Ty):bw->Option Va
 | []=>none
 | b::r=>if b=5/\r.length<=199 then (match mE r with
  | .error _=>none
  | .ok t=>match jf T t with
   | none=>none
   | some x=>if eB T then some x else none)else none
def TR (T:Ty) (x:Va):Bool:=pY T x&&eB T
def M8{T:Ty}{x:Va}(h:TR T x):bn T/\hasV x T/\eB T:=by unfold TR pY at h;simp only[qu]at h;exact⟨h.1.1,h.1.2,h.2⟩
def P9{T:Ty}{x:Va}(h:TR T x):(dR x).size<=301:=by have⟨a,b,c⟩:=M8 h;exact (OD b c (dE a).1).2.2
mutual
def vsum:Va->Nat
 | .mk _ _ _ s args _ _=>s.size / 8+1+vsums args
def vsums:an->Nat
 | []=>0
 | x::xs=>vsum x+vsums xs
end
def VD(x:Va):vsum x=x.s.size / 8+1+vsums x.args:=by cases x;rw[vsum];rfl
def pushS:an->List an
 | []=>[]
 | x::xs=>(if x.args.length=0 then []else [x.args])++pushS xs
def CY (M:List an):Nat:=(M.map vsums).sum
def nD (M:List an):Nat:=(M.map λl=>vsizes l+1).sum
def zY(a b:List an):CY (a++b)=CY a+CY b:=by simp[CY]
def gQ(a b:List an):nD (a++b)=nD a+nD b:=by simp[nD]
def qH(l:an):nD [l]=vsizes l+1:=by simp[nD]
def ve(M:List an):M.length<=nD M:=by
 induction M with
 | nil=>simp
 | cons r l a=>simp only[nD,qc3,ka7,jt]at a|-;omega
def wM(l:an):nD (pushS l)<=vsizes l:=by
 induction l with
 | nil=>simp[pushS,nD,vsizes]
 | cons x l a =>
  have h:=eP x;rw[pushS,gQ,vsizes];split
  .simp[nD]at a|-;omega
  .rw[qH];omega
open Pe Go.RowKit
def tdT (b k m:Nat) (L:an):Hints:=[(14+b,bA true),(17+b,jA m),(20+b,.one (.q k (m*1))),(21+b,qi L),(24+b,.one (.g k 1 m))]
def tdO (k m:Nat) (es:List bd) (L:an):List Prop:=[mD (aQ (decide ((0:Int)<Int.ofNat (m+1)))) (bA true),mD (lW (IntKind.i64.wrap (Int.ofNat (m+1) - 1))) (jA m),(if 1=1/\m<m+1 then some (AV.of (.one (.q k (m*1))))else none)=some (.of (.one (.q k (m*1)))),(p8 es (m*1) 1).bind (mkA false)=some (.of (qi L)),(if 1=1/\m<=m+1 then some (AV.of (.one (.g k 1 m)))else none)=some (.of (.one (.g k 1 m)))]
def aaU{k m:Nat}{es:List bd}{M:List an}{L:an}(c:M.length=m)(h:es.take (m+1)=bZ (M++[L]))(d:m<=50000000):(∀p∈tdO k m es L,p)/\es.take m=bZ M/\m<=es.length:=by obtain⟨a,b⟩:=aam (A:=bZ M) (r:=[.s 7 (vasD L)]) (m:=m) (n:=1) (by rw[ny,c]) (by simp[bZ]) rfl (by rw[h];simp[bZ]);exact⟨al (is_lt ot) (al (yY Kf) (al (if_pos ⟨rfl,od⟩) (al (by rw[a];rfl) (al (if_pos ⟨rfl,od⟩) al0)))),b⟩
def psO (l:Nat) (es:List bd) (M:List an) (L:an):List Prop:=[rowsLe (es.take l++[[.s 7 (vasD L)]]) (bZ (M++[L])),ZV 24 l es [[.s 7 (vasD L)]]]
def aaS{l:Nat}{es:List bd}{M:List an}{L:an}(c:M.length=l)(h:es.take l=bZ M)(a:l<=es.length)(b:l<=50000000):∀p∈psO l es M L,p :=
 al (by rw[h,show bZ (M++[L])=bZ M++[[.s 7 (vasD L)]] by simp[bZ]];exact rows_refl _) (al (za a ot rfl oB ov) al0)
def szQ (n k l:Nat) (es:List bd):St:=[((0,3),.of (iA (wrap64 (n:Nat)))),((0,4),.of (.one (.g k 1 l))),((k+1,0),.vT 28 1 es)]
def szS (n k l:Nat) (es:List bd) (L:an) (j:Nat):St:=szQ n k l es++[((0,25),.of (qi L)),((0,26),lW (vasD L).length),((0,27),.of (jA j))]
abbrev szI (p:St) (q:St):Prop:=vO prog f192.ntmps ⟨kX f192 1,p,4,q⟩
abbrev szO (p:St) (q:St):Prop:=vO prog f192.ntmps ⟨kX f192 0,p,2,q⟩
section
variable {n k l j:Nat}{es:List bd}{L:an}{M:List an}
def aaG{x:Va}{q:St}(hk:k=3000011\/k=3000046)(f:L[j]?=some x)(K:L.length<=20000000)(v:∀p∈psO l es M x.args,p)
 (h:szI (if x.args.length=0 then szS (n+(x.s.size / 8+1)) k l es L (j+1)else szS (n+(x.s.size / 8+1)) 3000046 (l+1) (bZ (M++[x.args])) L (j+1)) q):szI (szS n k l es L j) q:=by
 have J:=(qv.1 f).1;have w:=is_lt (a:=Int.ofNat j) (b:=((vasD L).length:Int)) OF;have z:=PT f;have A:mD (lW (IntKind.i64.wrap (wrap64 (n:Nat)+IntKind.i64.wrap (1+IntKind.i64.wrap ((x.s.size:Int).tdiv 8))))) (iA (wrap64 ((n+(x.s.size / 8+1):Nat):Int))):=yY (by rw[qb1,qb1,qb1,Int.tdiv_eq_ediv_of_nonneg od];unfold wrap64;omega)
 have B:mD (lW (IntKind.i64.wrap (Int.ofNat j+1))) (jA (j+1)):=yY (zF ot oB oB);have⟨G,H,E,i,g,I,D⟩:=x;have F:=λ(t:Hints) {r:List Prop} (u:∀p∈r,p) o c=>LG ([(28,bA true),(29,.one (.e (vaD (.mk G H E i g I D)) 0)),(37,iA (wrap64 ((n+(i.size / 8+1):Nat):Int)))]++t++[(47,jA (j+1))]) [] h (al w (al z (al A (oH u (al B al0))))) (pre:=szS n k l es L j) (h:=o) (hc:=c);rcases g with _|⟨y,m⟩
 .rcases hk with rfl|rfl<;>exact F [] al0 oA oA
 .have C:=is_lt (a:=0) (b:=((vasD (y::m)).length:Int)) (by rw[qY];simp);rcases hk with rfl|rfl<;>exact F [(41,bA true),(2000046,.one (.d (.s 1 (bZ (M++[y::m])))))] (al C v) oA oA
def aan(A:L.length<=20000000):∀(i j n k l:Nat) (es:List bd) (M:List an),j+i=L.length->(k=3000011\/k=3000046)->es.take l=bZ M->M.length=l->l<=es.length->l+i<=50000000 ->
 ∃m g f d,m+CY (pushS (L.drop j))=n+vsums (L.drop j)/\(g=3000011\/g=3000046)/\d.take f=bZ (M++pushS (L.drop j))/\(M++pushS (L.drop j)).length=f/\f<=d.length/\szI (szS n k l es L j) (szQ m g f d)
 | 0,j,n,k,l,es,M,J,p,t,u,v,I=>by have N:=wH (a:=Int.ofNat j) (b:=((vasD L).length:Int)) OF;rw[qf1 od];refine⟨n,k,l,es,rfl,p,by simpa[pushS]using t,by simpa[pushS]using u,v,?_⟩;have F:=λo c=>(xQ (e:=3) [(28,fA)] [] (al N al0) (h:=o) (hc:=c):szI (szS n k l es L j) (szQ n k l es));rcases p with rfl|rfl<;>exact F oA oA
 | i+1,j,n,k,l,es,M,J,p,t,u,v,I=>by
  have r:j<L.length:=od
  have K:=VD L[j];rw[yW r,pushS,vsums,zY];have w:=λh=>aaG (n:=n) (q:=h) p (qn r) A (aaS (L:=L[j].args) u t v od);generalize L[j]=x at *
  by_cases B:x.args.length=0
  .rw[jx B,vsums]at K;have⟨m,g,f,d,C,E,y,z,G,H⟩:=aan A i (j+1) (n+(x.s.size / 8+1)) k l es M od p t u v od;rw[if_pos B]at w|-;exact⟨m,g,f,d,by simp[CY]at C|-;omega,E,y,z,G,w _ H⟩
  .have⟨m,g,f,d,C,E,y,z,G,H⟩:=aan A i (j+1) (n+(x.s.size / 8+1)) 3000046 (l+1) (bZ (M++[x.args])) (M++[x.args]) od (.inr rfl) (qc0 vx) oB vx od;rw[if_neg B]at w|-;rw[ur]at y z;exact⟨m,g,f,d,by simp[CY]at C|-;omega,E,y,z,G,w _ H⟩
def sz_out:∀(N n k l:Nat) (es:List bd) (M:List an),nD M<=N->N<=20000001->(k=3000011\/k=3000046)->es.take l=bZ M->M.length=l->szO (szQ n k l es) [((0,3),.of (iA (wrap64 ((n+CY M:Nat):Int))))]
 | N,n,k,l,es,M,y,u,d,t,f=>by
  rcases jh7 M with rfl|⟨a,L,rfl⟩
  .obtain rfl:l=0:=f.symm;have F:=λo c=>(xQ (e:=1) [] [] al0 (h:=o) (hc:=c):szO (szQ n k 0 es) [((0,3),.of (iA (wrap64 ((n+CY []:Nat):Int))))]);rcases d with rfl|rfl<;>exact F oA oA
  rw[ka0]at *;rw[gQ,qH]at y;have H:0<N:=od
  obtain rfl:l=a.length+1:=by simp at f;omega
  have I:=ve a;have z:=kS L;have B:=wM L;have⟨A,v,w⟩:=aaU (k:=k) rfl t od;have⟨j,C,E,b,m,p,r,s,J,G⟩:=aan (L:=L) od L.length 0 n k a.length es a od d v rfl w od;rw[qg4]at m r s;have g:=sz_out (N - 1) j C E b (a++pushS L) (by rw[gQ];omega) od p r s;rw[show j+CY (a++pushS L)=n+CY (a++[L]) by rw[zY,zY];simp[CY]at m|-;omega]at g;have F:=λo c=>aaf (tdT 0 k a.length L) [_] (by intro x i;rw[js]at i;subst i;exact G) [] g (oH A (wI (S:=szS n k a.length es L 0) (q:=kX f192 1=kX f192 1) rfl (ps:=[]) al0)) (pre:=szQ n k (a.length+1) es) (h:=o) (hc:=c);rcases d with rfl|rfl<;>rcases p with rfl|rfl<;>exact F oA oA
termination_by N=>N
decreasing_by all_goals omega
end
def aaW{x:Va}(j:x.size<=20000000):Hd ⟨192,[pF x],.of (iA (wrap64 (vsum x:Nat)))⟩:=by have a:=sz_out (nD [[x]]) 0 3000011 1 (bZ [[x]]) [[x]] (qS _) (by rw[qH];simp[vsizes];omega) (.inl rfl) rfl rfl;rw[show 0+CY [[x]]=vsum x by simp[CY,vsums]]at a;have⟨e,f,d,i,g,h,c⟩:=x;exact Ce func192 [(11,nilA)] [_] (by intro y b;rw[js]at b;subst b;exact a) [] (wI (S:=szQ 0 3000011 1 (bZ [[.mk e f d i g h c]])) (q:=kX f192 0=kX f192 0) rfl (ps:=[]) al0)
def RL{w:bx}{x:Va}{v:cg}(a:aA (λ_=>True) w x v)(f:x.size<=20000000)(W:bx)(b:cm w W none) :
 Calls prog 192 #[v] W λe w'=>e =.returned (.i (wrap64 (vsum x:Nat)))/\cm W w' none:=by
 refine ((aaW f).runN rfl (λ_=>True) W [v] ⟨FJ (a.same (ni b)),trivial⟩).mono ?_;rintro e w' ⟨c,u,rfl,d⟩;exact⟨by rw[bW d],c⟩
