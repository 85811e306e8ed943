import Derived.Test.YtnamdihclpbdfaaGreatKuZah
namespace Go.Proofs.YtnamdihclpbdfaaGreat
set_option linter.all false
open Go.Proofs.Tryz
set_option maxRecDepth 100000
mutual
def vsum:Va->Nat
 | .mk _ _ _ s args _ _=>s.size / 8+1+vsums args
def vsums:ao->Nat
 | []=>0
 | x::xs=>vsum x+vsums xs
end
def VD(x:Va):vsum x=x.s.size / 8+1+vsums x.args:=by cases x;rw[vsum];rfl
def pushS:ao->List ao
 | []=>[]
 | x::xs=>(if x.args.length=0 then []else [x.args])++pushS xs
def CY (M:List ao):Nat:=(M.map vsums).sum
def nD (M:List ao):Nat:=(M.map λl=>vsizes l+1).sum
def zY(a b:List ao):CY (a++b)=CY a+CY b:=by simp[CY]
def gQ(a b:List ao):nD (a++b)=nD a+nD b:=by simp[nD]
def qH(l:ao):nD [l]=vsizes l+1:=by simp[nD]
def ve(M:List ao):M.length<=nD M:=by
 induction M with
 | nil=>simp
 | cons r l a=>simp only[nD,qc0,ka0,js]at a|-;omega
def wM(l:ao):nD (pushS l)<=vsizes l:=by
 induction l with
 | nil=>simp[pushS,nD,vsizes]
 | cons x l a =>
  have h:=eP x;rw[pushS,gQ,vsizes];split
  .simp[nD]at a|-;omega
  .rw[qH];omega
open Pe Go.RowKit
def tdT (b k m:Nat) (L:ao):Hints:=[(14+b,bA true),(17+b,jA m),(20+b,.one (.q k (m*1))),(21+b,qi L),(24+b,.one (.g k 1 m))]
def tdO (k m:Nat) (es:List bd) (L:ao):List Prop:=[mD (aQ (decide ((0:Int)<Int.ofNat (m+1)))) (bA true),mD (lW (IntKind.i64.wrap (Int.ofNat (m+1) - 1))) (jA m),(if 1=1/\m<m+1 then some (AV.of (.one (.q k (m*1))))else none)=some (.of (.one (.q k (m*1)))),(dY es (m*1) 1).bind (mkA false)=some (.of (qi L)),(if 1=1/\m<=m+1 then some (AV.of (.one (.g k 1 m)))else none)=some (.of (.one (.g k 1 m)))]
def abP{k m:Nat}{es:List bd}{M:List ao}{L:ao}(hm:M.length=m)(h:es.take (m+1)=cu (M++[L]))(c:m<=50000000):(∀p∈tdO k m es L,p)/\es.take m=cu M/\m<=es.length:=by obtain⟨a,b⟩:=DI (A:=cu M) (r:=[.s 7 (vasD L)]) (m:=m) (n:=1) (by rw[jB,hm]) (by simp[cu]) rfl (by rw[h];simp[cu]);exact⟨al (is_lt oe) (al (yY Zs) (al (if_pos ⟨rfl,od⟩) (al (by rw[a];rfl) (al (if_pos ⟨rfl,od⟩) al0)))),b⟩
def psO (l:Nat) (es:List bd) (M:List ao) (L:ao):List Prop:=[rowsLe (es.take l++[[.s 7 (vasD L)]]) (cu (M++[L])),zV 24 l es [[.s 7 (vasD L)]]]
def abC{l:Nat}{es:List bd}{M:List ao}{L:ao}(hm:M.length=l)(h:es.take l=cu M)(a:l<=es.length)(b:l<=50000000):∀p∈psO l es M L,p :=
 al (by rw[h,show cu (M++[L])=cu M++[[.s 7 (vasD L)]] by simp[cu]];exact rows_refl _) (al (iL a oe rfl ov ot) al0)
def szQ (n k l:Nat) (es:List bd):St:=[((0,3),.of (iA (wrap64 (n:Nat)))),((0,4),.of (.one (.g k 1 l))),((k+1,0),.kv 27 1 es)]
def szS (n k l:Nat) (es:List bd) (L:ao) (j:Nat):St:=szQ n k l es++[((0,25),.of (qi L)),((0,26),lW (vasD L).length),((0,27),.of (jA j))]
abbrev szI (p:St) (q:St):Prop:=vO prog f56.ntmps ⟨kC f56 1,p,4,q⟩
abbrev szO (p:St) (q:St):Prop:=vO prog f56.ntmps ⟨kC f56 0,p,2,q⟩
section
variable {n k l j:Nat}{es:List bd}{L:ao}{M:List ao}
def aa3{x:Va}{q:St}(hk:k=3000011\/k=3000046)(f:L[j]?=some x)(K:L.length<=20000000)(v:∀p∈psO l es M x.args,p)
 (h:szI (if x.args.length=0 then szS (n+(x.s.size / 8+1)) k l es L (j+1)else szS (n+(x.s.size / 8+1)) 3000046 (l+1) (cu (M++[x.args])) L (j+1)) q):szI (szS n k l es L j) q:=by
 have J:=(qT.1 f).1;have w:=is_lt (a:=Int.ofNat j) (b:=((vasD L).length:Int)) oX;have z:=PT f;have A:mD (lW (IntKind.i64.wrap (wrap64 (n:Nat)+IntKind.i64.wrap (1+IntKind.i64.wrap ((x.s.size:Int).tdiv 8))))) (iA (wrap64 ((n+(x.s.size / 8+1):Nat):Int))):=yY (by rw[yb,yb,yb,Int.tdiv_eq_ediv_of_nonneg od];unfold wrap64;omega)
 have B:mD (lW (IntKind.i64.wrap (Int.ofNat j+1))) (jA (j+1)):=yY (zF oe ov ov);have⟨G,H,E,i,g,I,D⟩:=x;have F:=λ(t:Hints) {r:List Prop} (u:∀p∈r,p) o c=>LG ([(28,bA true),(29,.one (.e (vaD (.mk G H E i g I D)) 0)),(37,iA (wrap64 ((n+(i.size / 8+1):Nat):Int)))]++t++[(47,jA (j+1))]) [] h (al w (al z (al A (jX u (al B al0))))) (pre:=szS n k l es L j) (h:=o) (hc:=c);rcases g with _|⟨y,m⟩
 .rcases hk with rfl|rfl<;>exact F [] al0 oA oA
 .have C:=is_lt (a:=0) (b:=((vasD (y::m)).length:Int)) (by rw[qY];simp);rcases hk with rfl|rfl<;>exact F [(41,bA true),(2000046,.one (.d (.s 1 (cu (M++[y::m])))))] (al C v) oA oA
def Y7(A:L.length<=20000000):∀(i j n k l:Nat) (es:List bd) (M:List ao),j+i=L.length->(k=3000011\/k=3000046)->es.take l=cu M->M.length=l->l<=es.length->l+i<=50000000 ->
 ∃m g f d,m+CY (pushS (L.drop j))=n+vsums (L.drop j)/\(g=3000011\/g=3000046)/\d.take f=cu (M++pushS (L.drop j))/\(M++pushS (L.drop j)).length=f/\f<=d.length/\szI (szS n k l es L j) (szQ m g f d)
 | 0,j,n,k,l,es,M,J,p,t,u,v,I=>by have N:=wH (a:=Int.ofNat j) (b:=((vasD L).length:Int)) oX;rw[qb6 od];refine⟨n,k,l,es,rfl,p,by simpa[pushS]using t,by simpa[pushS]using u,v,?_⟩;have F:=λo c=>(xQ (e:=3) [(28,fA)] [] (al N al0) (h:=o) (hc:=c):szI (szS n k l es L j) (szQ n k l es));rcases p with rfl|rfl<;>exact F oA oA
 | i+1,j,n,k,l,es,M,J,p,t,u,v,I=>by
  have r:j<L.length:=od
  have K:=VD L[j];rw[km r,pushS,vsums,zY];have w:=λh=>aa3 (n:=n) (q:=h) p (qu r) A (abC (L:=L[j].args) u t v od);generalize L[j]=x at *
  by_cases B:x.args.length=0
  .rw[jz B,vsums]at K;have⟨m,g,f,d,C,E,y,z,G,H⟩:=Y7 A i (j+1) (n+(x.s.size / 8+1)) k l es M od p t u v od;rw[if_pos B]at w|-;exact⟨m,g,f,d,by simp[CY]at C|-;omega,E,y,z,G,w _ H⟩
  .have⟨m,g,f,d,C,E,y,z,G,H⟩:=Y7 A i (j+1) (n+(x.s.size / 8+1)) 3000046 (l+1) (cu (M++[x.args])) (M++[x.args]) od (.inr rfl) (ux KK) ov KK od;rw[if_neg B]at w|-;rw[qa3]at y z;exact⟨m,g,f,d,by simp[CY]at C|-;omega,E,y,z,G,w _ H⟩
def sz_out:∀(N n k l:Nat) (es:List bd) (M:List ao),nD M<=N->N<=20000001->(k=3000011\/k=3000046)->es.take l=cu M->M.length=l->szO (szQ n k l es) [((0,3),.of (iA (wrap64 ((n+CY M:Nat):Int))))]
 | N,n,k,l,es,M,y,u,d,t,f=>by
  rcases jf2 M with rfl|⟨a,L,rfl⟩
  .obtain rfl:l=0:=f.symm;have F:=λo c=>(xQ (e:=1) [] [] al0 (h:=o) (hc:=c):szO (szQ n k 0 es) [((0,3),.of (iA (wrap64 ((n+CY []:Nat):Int))))]);rcases d with rfl|rfl<;>exact F oA oA
  rw[jf3]at *;rw[gQ,qH]at y;have H:0<N:=od
  obtain rfl:l=a.length+1:=by simp at f;omega
  have I:=ve a;have z:=kS L;have B:=wM L;have⟨A,v,w⟩:=abP (k:=k) rfl t od;have⟨j,C,E,b,m,p,r,s,J,G⟩:=Y7 (L:=L) od L.length 0 n k a.length es a od d v rfl w od;rw[ja4]at m r s;have g:=sz_out (N - 1) j C E b (a++pushS L) (by rw[gQ];omega) od p r s;rw[show j+CY (a++pushS L)=n+CY (a++[L]) by rw[zY,zY];simp[CY]at m|-;omega]at g;have F:=λo c=>XQ (tdT 0 k a.length L) [_] (by intro x i;rw[qv]at i;subst i;exact G) [] g (jX A (wI (S:=szS n k a.length es L 0) (q:=kC f56 1=kC f56 1) rfl (ps:=[]) al0)) (pre:=szQ n k (a.length+1) es) (h:=o) (hc:=c);rcases d with rfl|rfl<;>rcases p with rfl|rfl<;>exact F oA oA
termination_by N=>N
decreasing_by all_goals omega
end
def Nu{x:Va}(j:x.size<=20000000):Hd ⟨56,[pF x],.of (iA (wrap64 (vsum x:Nat)))⟩:=by have a:=sz_out (nD [[x]]) 0 3000011 1 (cu [[x]]) [[x]] (jj _) (by rw[qH];simp[vsizes];omega) (.inl rfl) rfl rfl;rw[show 0+CY [[x]]=vsum x by simp[CY,vsums]]at a;have⟨e,f,d,i,g,h,c⟩:=x;exact Ce func56 [(11,nilA)] [_] (by intro y b;rw[qv]at b;subst b;exact a) [] (wI (S:=szQ 0 3000011 1 (cu [[.mk e f d i g h c]])) (q:=kC f56 0=kC f56 0) rfl (ps:=[]) al0)
def RL{w:cg}{x:Va}{v:cm}(a:aA (λ_=>True) w x v)(d:x.size<=20000000)(W:cg)(hW:cq w W none) :
 Calls prog 56 #[v] W λe w'=>e =.returned (.i (wrap64 (vsum x:Nat)))/\cq W w' none:=by
 refine ((Nu d).runN rfl (λ_=>True) W [v] ⟨FJ (a.same (sameAll hW)),trivial⟩).mono ?_;rintro e w' ⟨b,u,rfl,c⟩;exact⟨by rw[bW c],b⟩
open Go.RowKit
def Ij (x y:Va):Bool:=decide (qg uL x y=0)
structure En where
 self:Int
 sender:Int
 amount:Int
 balance:Int
structure Fr where
 rest:aE
 op:Int
 row:aE
 aside:ao
structure Ma where
 paid:Int
 aO:Int
 said:Va
 st:ao
 fr:List Fr
inductive Out where
 | stuck
 | no (e:Int) (m:Ma)
 | go (m:Ma)
def mkV (k:Int) (args:ao):Va:=.mk k 0 0 ⟨#[]⟩ args [] []
def aW (k n:Int):Va:=.mk k n 0 ⟨#[]⟩ [] [] []
def aV (v:Va):Va:=mkV 9 [v]
def noneV:Va:=mkV 9 []
def aY (a b:Va):Va:=mkV 11 [a,b]
def di (s:bp):Va:=.mk 6 0 0 s [] [] []
def aZ (b:Bool):Va:=aW 2 (if b then 1 else 0)
def nE (n:Int) (v:Va):Va:=.mk 12 n 0 ⟨#[]⟩ [v] [] []
def aM (a n:Int) (v:Va):Va:=.mk 15 n a ⟨#[]⟩ [v] [] []
def yN (v:Va):Bool:=decide (200<wrap64 (vsum v:Nat))
def bz (m:Ma) (l:ao):Out:=if 20000000<vsizes l then .stuck else if l.any yN then .no 13 m else .go { m with st:=l++m.st }
def uH (aC:Int) (m:Ma) (k:Ma->Out):Out:=if aC<=m.paid then .no 12 m else k { m with paid:=m.paid+1 }
def dK (n:Tr) (i:Nat):Tr:=(n.args0[i]?).getD tr0
def p9 (n:Tr) (m:Ma):Out :=
 if n.p0=40 then (match m.st with
  | _::s=>.go { m with st:=s }
  | []=>.stuck)
 else if n.p0=41 then (if 1<=(dK n 0).n0 then (match m.st[(dK n 0).n0.toNat - 1]? with
  | some v=>bz m [v]
  | none=>.stuck)else .stuck)
 else if n.p0=42 then (match m.st with
  | a::b::s=>bz { m with st:=s } [b,a]
  | _=>.stuck)
 else if n.p0=43 then (if 0<=(dK n 0).n0 then (match m.st[(dK n 0).n0.toNat]? with
  | some v=>.go { m with st:=v::m.st.eraseIdx (dK n 0).n0.toNat }
  | none=>.stuck)else .stuck)
 else (match m.st with
  | v::s=>if 0<=(dK n 0).n0/\(dK n 0).n0<=s.length then .go { m with st:=s.take (dK n 0).n0.toNat++v::s.drop (dK n 0).n0.toNat } else .stuck
  | []=>.stuck)
def l8 (p:Int) (m:Ma):Out :=
 if p=54 then bz m [noneV]else match m.st with
 | []=>.stuck
 | a::s =>
  if p=46 then (match s with
   | b::s=>bz { m with st:=s } [aY a b]
   | []=>.stuck)
  else if p=48 then (match a.args with
   | x::_=>bz { m with st:=s } [x]
   | []=>.stuck)
  else if p=49 then (match a.args with
   | _::y::_=>bz { m with st:=s } [y]
   | _=>.stuck)
  else if p=50 then bz { m with st:=s } [nE 0 a]
  else if p=51 then bz { m with st:=s } [nE 1 a]
  else if p=53 then bz { m with st:=s } [aV a]
  else bz { m with st:=s } a.args
def jP (m:Ma) (k:Int) (l:ao):Out:=if 24<l.length then .no 13 m else bz m [mkV k l]
def j4 (l:ao) (key:Va):Nat:=(l.takeWhile λx=>decide (gT (fU x) key<0)).length
def fJ (l:ao) (key:Va):Bool:=match l[j4 l key]? with
 | some x=>decide (gT (fU x) key=0)
 | none=>false
def uO (l:ao) (key:Va) (item:ao):ao:=l.take (j4 l key)++(item.map (aY key)++l.drop (if fJ l key then j4 l key+1 else j4 l key))
def fG (p:Int) (m:Ma):Out :=
 if p=56 then bz m [mkV 10 []]else if p=61 then bz m [mkV 13 []]else match m.st with
 | []=>.stuck
 | a::s =>
  if p=59 then bz { m with st:=s } [aW 4 (a.s.size+a.args.length:Nat)]
  else match s with
  | []=>.stuck
  | b::s =>
   if p=57 then jP { m with st:=s } 10 (a::b.args)
   else if p=62 then (if risesF b.args then (if fJ b.args a then (match b.args[j4 b.args a]? with
    | some x=>(match x.args with
     | _::y::_=>bz { m with st:=s } [aV y]
     | _=>.stuck)
    | none=>.stuck)else bz { m with st:=s } [noneV])else .stuck)
   else (match s with
    | c::s=>if risesF c.args then jP { m with st:=s } 13 (uO c.args a b.args)else .stuck
    | []=>.stuck)
def ru (p:Int) (v:Va):Nat×ao :=
 if p=52 then (v.n.toNat,v.args)else if p=55 then (v.args.length,v.args)else if p=64 then (if v.n=1 then 0 else 1,v.args)
 else match v.args with
  | []=>(1,[])
  | x::l=>(0,[x,mkV 10 l])
def gJ (n:Tr) (m:Ma):Out:=match m.st with
 | []=>.stuck
 | v::s=>match n.args0[(ru n.p0 v).1]? with
  | none=>.stuck
  | some t=>if n.p0=52/\v.n<0 then .stuck else bz { m with st:=s,fr:=⟨t.args0,0,[],[]⟩::m.fr } (ru n.p0 v).2
def mq (n:Tr) (m:Ma):Out :=
 if n.p0=60 then (match m.st with
  | v::s=>.go { m with st:=s,fr:=⟨[],60,(dK n 0).args0,v.args⟩::m.fr }
  | []=>.stuck)
 else if n.p0=65 then .go { m with fr:=⟨[],65,(dK n 0).args0,[]⟩::m.fr }
 else if n.p0=68 then (match m.st with
  | v::s=>.go { m with st:=s,fr:=⟨(dK n 0).args0,68,[],[v]⟩::m.fr }
  | []=>.stuck)
 else if n.p0=67 then (match m.st with
  | a::b::s=>.go { m with st:=[a],fr:=⟨b.code,67,[],s.reverse⟩::m.fr }
  | _=>.stuck)
 else bz m [.mk 14 0 0 ⟨#[]⟩ [] [kreadT (dK n 0),kreadT (dK n 1)] (dK n 2).args0]
def kF (n:Int):Int×Int:=if kE n then (n,0)else (0,11)
def addN (a b:Int):Int×Int:=if kE a/\kE b then kF (a+b)else (0,2)
def Iu (a b:Int):Int×Int:=if kE a/\kE b then kF (a - b)else (0,2)
def mulN (a b:Int):Int×Int:=if kE a/\kE b then kF (a*b)else (0,2)
def EJ (a:Int):Int×Int:=if kE a then ((a.natAbs:Int),0)else (0,2)
def iU (p a b:Int):Int×Int:=if p=69 then addN a b else if p=70 then Iu a b else mulN a b
def mK (p a b:Int):Int:=if a=5\/b=5 then 5 else if p≠70/\a=4/\b=4 then 4 else 3
def oV (m:Ma) (k:Int) (r:Int×Int):Out:=if r.2=0 then bz m [aW k r.1]else .no r.2 m
def rH (a b:Int):Int×Int:=if a=5/\b=5 then (4,5)else if a=5 then (5,5)else if a=4/\b=4 then (4,4)else (3,4)
def Gu (m:Ma) (a b:Va):Out :=
 if kE a.n/\kE b.n then (if b.n=0 then bz m [noneV]
  else bz m [aV (aY (aW (rH a.k b.k).1 (a.n / b.n)) (aW (rH a.k b.k).2 (a.n % b.n)))])else .no 2 m
def gL (p:Int) (m:Ma):Out:=match m.st with
 | []=>.stuck
 | a::s =>
  if p=93 then oV { m with st:=s } 4 (EJ a.n)
  else if p=94 then bz { m with st:=s } [if a.n<0 then noneV else aV (aW 4 a.n)]
  else if p=95 then bz { m with st:=s } [aW 3 a.n]
  else match s with
  | []=>.stuck
  | b::s =>
   if p=72 then Gu { m with st:=s } a b
   else if p=70/\a.k=5 then bz { m with st:=s } [if (iU p a.n b.n).1<0 then noneV else aV (aW 5 (iU p a.n b.n).1)]
   else oV { m with st:=s } (mK p a.k b.k) (iU p a.n b.n)
def kJ (v:Va):Bool:=decide (v.n=1)
def xm (p:Int) (m:Ma):Out:=match m.st with
 | []=>.stuck
 | a::s =>
  if p=74 then bz { m with st:=s } [aZ (decide (a.n=0))]
  else if p=75 then bz { m with st:=s } [aZ (decide (a.n<0))]
  else if p=76 then bz { m with st:=s } [aZ (decide (0<a.n))]
  else if p=77 then bz { m with st:=s } [aZ (!kJ a)]
  else match s with
  | []=>.stuck
  | b::s =>
   if p=73 then bz { m with st:=s } [aW 3 (gT a b)]
   else if p=78 then bz { m with st:=s } [aZ (kJ a&&kJ b)]
   else bz { m with st:=s } [aZ (kJ a||kJ b)]
def oz (v:Va):Option bp:=if dS (dR v)=0/\(encTr (dR v)).length<=199 then some ⟨(5::encTr (dR v)).toArray⟩else none
def jQ (n:Tr) (m:Ma):Out :=
 if n.p0=45 then (match jf (kreadT (dK n 0)) (dK n 1)with
  | some v=>bz m [v]
  | none=>.stuck)
 else match m.st with
 | []=>.stuck
 | a::s =>
  if n.p0=80 then (match s with
   | b::s=>if 200<a.s.size+b.s.size then .no 13 m else bz { m with st:=s } [di (a.s++b.s)]
   | []=>.stuck)
  else if n.p0=81 then (if (dR a).size<=301 then (match oz a with
   | some t=>bz { m with st:=s } [di t]
   | none=>.no 13 m)else .stuck)
  else if n.p0=82 then (match jw (kreadT (dK n 0)) a.s.toList with
   | some v=>bz { m with st:=s } [aV v]
   | none=>bz { m with st:=s } [noneV])
  else .no 10 { m with said:=a }
def iB (en:En) (p:Int) (m:Ma):Out:=match m.st with
 | []=>.stuck
 | a::s =>
  if p=84 then (match s with
   | b::s=>if b.n=0 then bz { m with st:=s } [noneV]else if (addN m.aO b.n).2=0 then bz { m with st:=s,aO:=(addN m.aO b.n).1 } [aV (aM en.self b.n a)]else .no (addN m.aO b.n).2 m
   | []=>.stuck)
  else if p=85 then (match a.args with
   | x::_=>bz { m with st:=s } [aY (aW 7 a.a) (aY x (aW 4 a.n)),a]
   | []=>.stuck)
  else if p=86 then (match s,a.args with
   | b::s,x::_=>(match b.args with
    | y::z::_=>if y.n=0\/z.n=0\/wrap64 (y.n+z.n)≠a.n then bz { m with st:=s } [noneV]else bz { m with st:=s } [aV (aY (aM a.a y.n x) (aM a.a z.n x))]
    | _=>.stuck)
   | _,_=>.stuck)
  else (match a.args with
   | y::z::_=>(match y.args,z.args with
    | u::_,v::_=>if y.a≠z.a\/Ij u v=false then bz { m with st:=s } [noneV]else if (addN y.n z.n).2=0 then bz { m with st:=s } [aV (aM y.a (addN y.n z.n).1 u)]else .no (addN y.n z.n).2 m
    | _,_=>.stuck)
   | _=>.stuck)
def iw (en:En) (n:Tr) (m:Ma):Out :=
 if n.p0=89 then bz m [aW 7 en.self]else if n.p0=90 then bz m [aW 7 en.sender]else if n.p0=91 then bz m [aW 5 en.amount]else if n.p0=92 then bz m [aW 5 en.balance]
 else match m.st with
 | v::a::t::s=>bz { m with st:=s } [.mk 8 a.n t.n ⟨#[]⟩ [v] [kreadT (dK n 0)] []]
 | _=>.stuck
def Qy (en:En) (n:Tr) (m:Ma):Out :=
 if n.p0=40\/n.p0=41\/n.p0=42\/n.p0=43\/n.p0=44 then p9 n m
 else if n.p0=46\/n.p0=47\/n.p0=48\/n.p0=49\/n.p0=50\/n.p0=51\/n.p0=53\/n.p0=54 then l8 n.p0 m
 else if n.p0=56\/n.p0=57\/n.p0=59\/n.p0=61\/n.p0=62\/n.p0=63 then fG n.p0 m
 else if n.p0=52\/n.p0=55\/n.p0=58\/n.p0=64 then gJ n m
 else if n.p0=60\/n.p0=65\/n.p0=66\/n.p0=67\/n.p0=68 then mq n m
 else if n.p0=69\/n.p0=70\/n.p0=71\/n.p0=72\/n.p0=93\/n.p0=94\/n.p0=95 then gL n.p0 m
 else if n.p0=73\/n.p0=74\/n.p0=75\/n.p0=76\/n.p0=77\/n.p0=78\/n.p0=79 then xm n.p0 m
 else if n.p0=45\/n.p0=80\/n.p0=81\/n.p0=82\/n.p0=83 then jQ n m
 else if n.p0=84\/n.p0=85\/n.p0=86\/n.p0=87 then iB en n.p0 m
 else iw en n m
def Iq (en:En) (aC:Int) (n:Tr) (m:Ma):Out :=
 if n.k0=3 then .go { m with fr:=⟨n.args0,0,[],[]⟩::m.fr } else uH aC m (Qy en n)
def Bz (aC:Int) (f:Fr) (fs:List Fr) (m:Ma):Out :=
 if f.op=60 then (match f.aside with
  | x::l=>uH aC { m with st:=x::m.st,fr:=⟨f.row,60,f.row,l⟩::fs } .go
  | []=>.go { m with fr:=fs })
 else if f.op=65 then (match m.st with
  | v::s=>if kJ v then uH aC { m with st:=s,fr:=⟨f.row,65,f.row,f.aside⟩::fs } .go else .go { m with st:=s,fr:=fs }
  | []=>.stuck)
 else if f.op=68 then .go { m with st:=f.aside.reverse++m.st,fr:=fs }
 else if f.op=67 then .go { m with st:=m.st++f.aside.reverse,fr:=fs }
 else .go { m with fr:=fs }
def uB (en:En) (aC:Int) (m:Ma):Out:=match m.fr with
 | []=>.stuck
 | f::fs=>match f.rest with
  | []=>Bz aC f fs m
  | n::l=>Iq en aC n { m with fr:=⟨l,f.op,f.row,f.aside⟩::fs }
def fq (en:En) (aC:Int):Nat->Ma->Out
 | 0,_=>.stuck
 | N+1,m=>match m.fr with
  | []=>.go m
  | _::_=>match uB en aC m with
   | .go m'=>fq en aC N m'
   | .no e m'=>.no e m'
   | .stuck=>.stuck
mutual
def xJ(d:Nat):∀(T:Ty),bf (d+1) T->bf d T
 | .nd t a,h=>by simp only[bf,qt,jt]at h|-;exact⟨⟨od,h.1.2⟩,vX (d+1) a h.2⟩
def vX(d:Nat):∀(l:aw),ig (d+1) l->ig d l
 | [],_=>rfl
 | T::l,h=>by simp only[ig,qt]at h|-;exact⟨xJ d T h.1,vX d l h.2⟩
end
def wF{t:Int}{args:aw}(h:ai (.nd t args)):args.all ai:=by
 rw[kd];intro T a;have⟨b,d,c⟩:=dE h;simp only[bf,qt,jT,kd]at b;have e:=xJ 1 T (b.2 T a);have f:keyedF T:=by simp only[keyedF,qt,uu,kd]at c;exact c.2 T a
 have g:T.size<=300:=by have:=jS a;simp only[Ty.size]at d;omega
 simp[ai,e,f,g]
def gX{T:Ty}(h:ai T):T.args.all ai:=by have⟨t,args⟩:=T;exact wF h
def yV{args:aw}(h:ai (.nd 13 args)):ai (.nd 11 args):=by
 have⟨a,b,c⟩:=dE h;simp only[bf,qt,jt]at a;simp only[keyedF,qt]at c;simp only[Ty.size]at b;simp only[ai,bf,keyedF,Ty.size,qt,jt];refine⟨⟨⟨⟨a.1.1,ot,?_⟩,a.2⟩,by simpa using b⟩,?_,c.2⟩
 .have:=a.1.2.2;simpa[bT]using this
 .simp[uZ]
def um{a b:aw}(c:a.all ai)(hb:b.all ai):(a++b).all ai:=by rw[jc7,c,hb];rfl
def iI{s:aw}(h:s.all ai)(k:Nat):(s.drop k).all ai:=kd.2 λx a=>kd.1 h x (qh2 a)
def Dz{s:aw}(h:s.all ai)(k:Nat):(s.take k).all ai:=kd.2 λx a=>kd.1 h x (qe6 a)
def Kc{T:Ty}(h:ai T)(a:T.t=13):ai (.nd 11 T.args):=by have⟨t,args⟩:=T;simp only[Ty.t]at a;subst a;exact yV h
