import Derived.Test.YtnamdihclpbdfabGreatKtZad
namespace Go.Proofs.YtnamdihclpbdfabGreat
set_option linter.all false
open Go.Proofs.Tryz
set_option maxRecDepth 100000
set_option maxHeartbeats 4000000
def gW (p:Int) (args:aE):Tr:=.nd 2 0 p ⟨#[]⟩ args
def eltT:Tr->Tr
 | .nd k n p s args=>.nd k n 28 s args
def Tr.k0:Tr->Int
 | .nd k _ _ _ _=>k
def Tr.n0:Tr->Int
 | .nd _ n _ _ _=>n
def Tr.p0:Tr->Int
 | .nd _ _ p _ _=>p
def Tr.s0:Tr->bp
 | .nd _ _ _ s _=>s
def aL (x:Va) (l:aE):Tr :=
 if x.k=1 then gW 20 []else if x.k=2 then gW (if x.n=0 then 22 else 21) []
 else if x.k=3\/x.k=4\/x.k=5\/x.k=7 then .nd 0 x.n 0 ⟨#[]⟩ []else if x.k=6 then .nd 1 0 0 x.s []
 else if x.k=9 then gW (if l.length=0 then 27 else 26) l else if x.k=11 then gW 23 l
 else if x.k=12 then gW (if x.n=0 then 24 else 25) l else if x.k=10 then .nd 3 0 0 ⟨#[]⟩ l
 else if x.k=13 then .nd 3 0 0 ⟨#[]⟩ (l.map eltT)else .nd (-1) 0 0 ⟨#[]⟩ []
mutual
def dataT:Va->Tr
 | .mk k n a s args ty co=>aL (.mk k n a s args ty co) (dataTs args)
def dataTs:ao->aE
 | []=>[]
 | x::xs=>dataT x::dataTs xs
end
def dL (T:Ty) (p:Int):Option (Int×aw) :=
 if T.t=1/\p=20 then some (0,[])else if T.t=2/\p=22 then some (0,[])else if T.t=2/\p=21 then some (1,[])
 else if T.t=9/\p=27 then some (0,[])else if T.t=9/\p=26 then some (0,T.args)else if T.t=11/\p=23 then some (0,T.args)
 else if T.t=12/\p=24 then some (0,T.args.take 1)else if T.t=12/\p=25 then some (1,T.args.drop 1)else none
def fM (t n:Int) (s:bp) (l:ao):Va:=.mk t n 0 s l [] []
mutual
def readT:Tr->Ty->Option Va
 | .nd k n p s args,T =>
  if T.t=3\/T.t=4\/T.t=5\/T.t=7 then (if k=0 then some (fM T.t n ⟨#[]⟩ [])else none)
  else if T.t=6 then (if k=1 then some (fM 6 0 s [])else none)
  else if T.t=10 then (if k=3 then (readTs args (List.replicate args.length (bB T.args 0))).map (fM 10 0 ⟨#[]⟩)else none)
  else if T.t=13 then (if k=3 then (readEs args T.args).map (fM 13 0 ⟨#[]⟩)else none)
  else match dL T p with
   | none=>none
   | some (m,ts)=>(readTs args ts).map (fM T.t m ⟨#[]⟩)
def readTs:aE->aw->Option ao
 | [],[]=>some []
 | t::l,T::ts=>match readT t T with
  | none=>none
  | some x=>(readTs l ts).map (x :: ·)
 | [],_::_=>none
 | _::_,[]=>none
def readEs:aE->aw->Option ao
 | [],_=>some []
 | .nd k n p s args::l,ts=>match readTs args ts with
  | none=>none
  | some ys=>if p=28 then (readEs l ts).map (fM 11 0 ⟨#[]⟩ ys :: ·)else none
end
def Va.eta(x:Va):x =.mk x.k x.n x.a x.s x.args x.types x.code:=by cases x;rfl
def oU{T:Ty}(hc:eB T):(T.t≠8/\T.t≠14/\T.t≠15)/\∀y∈T.args,eB y:=by have⟨t,c⟩:=T;simp only[eB,sW,qv,Bq,Bool.not_true,jh7]at hc;have⟨b,a⟩:=hc;simp only[LU,jt]at b;rw[yL,ki]at a;exact⟨b,a⟩
def uh{d:Nat}{T:Ty}(h:j5 d T):1<=T.t/\T.t<=15:=by have⟨t,a⟩:=T;simp only[j5,qv,jH,jt]at h;exact h.1.2.1
def nY{T:Ty}{x:Va}(w:hasV x T)(hc:eB T) :
 x.k=T.t/\x.a=0/\x.types=[]/\x.code=[]/\(T.t≠6->x.s=⟨#[]⟩)/\bQ T.t x.n/\∃ts,bS T x=some ts/\hasVs x.args ts:=by
 have⟨v,u⟩:=oU hc;have⟨j,ts,o,l⟩:=Bo w;unfold eX at j;simp only[qv,jt,qe6]at j;have⟨⟨⟨⟨⟨hk,q⟩,r⟩,m⟩,b⟩,i⟩:=j;have g:x.a=0:=by
  rcases r with h|h
  .exact h
  .exact absurd h.1 od
 have e:x.types=[]:=by unfold eZ at b;rw[oa,oa]at b;exact jx (by simpa using b)
 have c:x.code=[]:=by
  rcases i with h|h
  .exact jx h
  .exact absurd h od
 refine⟨hk,g,e,c,λp=>?_,q,ts,o,l⟩;have h0:x.s.size=0:=by
  rcases m with h|h
  .exact h
  .exact absurd h.1 p
 have f:x.s.data=#[]:=ja7 h0
 cases y:x.s with
 | mk d=>rw[y]at f;simp at f;rw[f]
def LK{T:Ty}{x:Va}{d:Nat}{ts:aw}(b:j5 d T)(g:T.t<=7)(a:bS T x=some ts):x.args=[]:=by
 have⟨c,_⟩:=jU b;have⟨e,_⟩:=uh b;have f:bT T.t=0:=Ks
 unfold bS at a;simp only at a;rw[oa,oa,oa,oa,oa,oa]at a;split at a
 .rename_i h;exact jx od
 .cases a
def D9{us:aw}{d:Nat}(h:∀U∈us,eB U/\j5 d U):eB (.nd 11 us):=by simp only[eB,sW,Bq,Bool.not_true,jh7,qv];refine⟨ov,?_⟩;rw[yL,ki];exact λU a=>(h U a).1
mutual
def cntV:Va->Nat
 | .mk _ _ _ _ args _ _=>cntVs args+1
def cntVs:ao->Nat
 | []=>0
 | x::xs=>cntV x+cntVs xs
end
mutual
def jg (c:Nat):Va->Nat×Tr
 | .mk k n a s args ty co=>((dJ (c+1) args).1,aL (.mk k n a s args ty co) (dJ (c+1) args).2)
def dJ (c:Nat):ao->Nat×aE
 | []=>(c,[])
 | x::xs=>if 300<c then (c,[])else ((dJ (jg c x).1 xs).1,(jg c x).2::(dJ (jg c x).1 xs).2)
end
def Qb(x:Va):1<=cntV x:=by cases x;simp[cntV]
mutual
def tell_full:∀(x:Va) (c:Nat),c+cntV x<=301->jg c x=(c+cntV x,dataT x)
 | .mk k n a s b f e,c=>by intro h;rw[cntV]at h;have d:=tells_full b (c+1) od;rw[jg,d,cntV,dataT];simp only[js,and_true];omega
def tells_full:∀(xs:ao) (c:Nat),c+cntVs xs<=301->dJ c xs=(c+cntVs xs,dataTs xs)
 | [],c=>by intro _;simp[dJ,cntVs,dataTs]
 | x::xs,c=>by intro h;rw[cntVs]at h;have d:=Qb x;have b:=tell_full x c od;have a:=tells_full xs (c+cntV x) od;rw[dJ,oa,b,a,cntVs,dataTs];simp only[js,and_true];omega
end
mutual
def tell_most:∀(x:Va) (c:Nat),c<=300->c<(jg c x).1/\(jg c x).1<=301/\(301<=c+cntV x->(jg c x).1=301)
 | .mk k n a s b m f,c=>by
  intro h;rw[jg,cntV]
  by_cases j:c+1<=300
  .have⟨g,i,d⟩:=tells_most b (c+1) od;exact⟨vA,vA,λl=>by simp only;exact d od⟩
  .have e:c+1=301:=by omega
   rw[e]
   cases b with
   | nil=>simp[dJ,cntVs];omega
   | cons x o=>simp[dJ];omega
def tells_most:∀(xs:ao) (c:Nat),c<=300->c<=(dJ c xs).1/\(dJ c xs).1<=301/\(301<=c+cntVs xs->(dJ c xs).1=301)
 | [],c=>by intro h;simp[dJ,cntVs];omega
 | x::xs,c=>by
  intro h;have⟨i,j,b⟩:=tell_most x c h;rw[dJ,oa,cntVs];simp only
  by_cases d:(jg c x).1<=300
  .have⟨l,g,a⟩:=tells_most xs (jg c x).1 d;refine⟨od,g,λk=>?_⟩
   by_cases f:301<=c+cntV x
   .have:=b f;omega
   .have e:=tell_full x c od;rw[e]at a|-;exact a vA
  .have e:(jg c x).1=301:=by omega
   rw[e]
   cases xs with
   | nil=>simp[dJ];omega
   | cons y m=>simp[dJ];omega
end
def qm (t:Tr):Prop:=∀d,bC d t=0\/bC d t=4
def firsts_ok:∀{l:aE},(∀t∈l,qm t)->∀d,bG d l=0\/bG d l=4
 | [],_,d=>by simp[bG]
 | t::l,h,d=>by
  rw[bG];rcases h t oe d with a|a
  .rw[if_neg (by simpa using a)];exact firsts_ok (λz b=>h z (by simp[b])) d
  .rw[if_pos (by rw[a];decide)];exact .inr a
def xW{k n p:Int}{s:bp}{l:aE}(b:Lf.fD k n p s l.length=0)(h:∀t∈l,qm t):qm (.nd k n p s l):=by
 intro d;rw[bC]
 by_cases a:24<d
 .rw[if_pos a];exact .inr rfl
 .rw[if_neg a,if_neg (by simpa using b)];exact firsts_ok h (d+1)
def KT(p:Int)(h:Lf.gD p)(l:Nat):Lf.fD 2 0 p ⟨#[]⟩ l=0:=by unfold Lf.fD;rw[if_neg ov,if_neg (by rw[h];simp),if_neg (by simp[Lf.qM];rfl),oa,if_neg ov]
def Ez(l:Nat):Lf.fD 3 0 0 ⟨#[]⟩ l=0:=Zs
def OP(n:Int)(h:-1152921504606846976<=n/\n<=1152921504606846976):Lf.fD 0 n 0 ⟨#[]⟩ 0=0:=Zs
def KV(s:bp)(h:s.size<=200):Lf.fD 1 0 0 s 0=0:=by unfold Lf.fD;rw[if_neg ov,oa,if_neg (by simp[Lf.qM]),oa,oa]
def vD{p:Int}{l:aE}(a:Lf.gD p)(h:∀t∈l,qm t):qm (gW p l):=xW (KT p a _) h
def Qj(t:Tr):(eltT t).size=t.size:=by cases t;simp[eltT,Tr.size]
def elts_size:∀l:aE,sizes (l.map eltT)=sizes l
 | []=>rfl
 | t::l=>by simp[sizes,Qj,elts_size l]
def Sc{T:Ty}{x:Va}{d:Nat}{ts:aw}(A:hasV x T)(q:eB T)(h:j5 d T)(a:bS T x=some ts):∀U∈ts,eB U/\∃k,j5 k U:=by
 have⟨hk,C,z,s,E,o,B,r,u⟩:=nY A q;have⟨y,j⟩:=oU q;have⟨b,i⟩:=jU h;have c:∀U∈T.args,eB U/\∃k,j5 k U:=λU e=>⟨j U e,d+1,i U e⟩;unfold bS at a;simp only at a;rw[oa]at a;intro U e;split at a
 .simp only[qq]at a;subst a;simp at e
 .split at a
  .rename_i l;split at a
   .simp only[qq]at a;subst a;rw[qe7 e];have v:T.args.length=1:=by rw[l]at b;simp[bT]at b;omega
    exact c _ (by unfold bB;rw[qt od];exact yv _)
   .cases a
  .split at a
   .rename_i g;split at a
    .simp only[qq]at a;subst a;rw[qe7 e];refine⟨D9 (d:=d+1) (λV p=>⟨j V p,i V p⟩),d,?_⟩;have⟨t,m⟩:=T;simp only[Ty.t]at g;subst g;simp only[j5,qv,jt,Ty.args]at h|-;refine⟨⟨h.1.1,ov,?_⟩,h.2⟩;have:=h.1.2.2;simp[bT]at this|-;exact this
    .cases a
   .split at a
    .rename_i f;split at a
     .simp only[qq]at a;subst a;simp only[qu]at e;subst e;have w:T.args.length=2:=by rw[f]at b;simp[bT]at b;omega
      have D:x.n=0\/x.n=1:=by rw[f]at o;simpa[bQ]using o
      exact c _ (by unfold bB;rw[qt od];exact yv _)
     .cases a
    .rw[oa]at a;split at a
     .simp only[qq]at a;subst a;exact c U e
     .cases a
def yJ (t:Tr):Prop:=∃l',t=gW 23 l'/\∀u∈l',qm u
def KF{T:Ty}{x:Va}(b:hasV x T)(c:T.t=6):x.s.size<=200:=by
 have⟨a,_⟩:=Bo b;unfold eX at a;simp only[qv,jt,qe6]at a;rcases a.1.1.2 with h|h
 .omega
 .exact h.2
def CF{T:Ty}{x:Va}{d:Nat}(k:hasV x T)(j:eB T)(i:j5 d T)(l:aE)(h0:x.args=[]->l=[])(a:∀t∈l,qm t)(hm:T.t=13->∀t∈l,yJ t) :
 qm (aL x l)/\(aL x l).size=sizes l+1/\(T.t=11->yJ (aL x l)):=by
 have⟨hk,B,z,q,C,b,ts,g,r⟩:=nY k j;have⟨w,v⟩:=oU j;have m:=uh i
 by_cases o:T.t<=7
 .have f:=h0 (LK i o g);subst f;rcases (show T.t=1\/T.t=2\/T.t=3\/T.t=4\/T.t=5\/T.t=6\/T.t=7 from by omega)with h|h|h|h|h|h|h
  all_goals
   rw[h]at hk b;refine⟨?_,?_,λe=>od⟩
  .simp only[aL,hk,if_true];exact vD rfl a
  .simp[aL,hk,gW,Tr.size,sizes]
  .have e:aL x []=gW (if x.n=0 then 22 else 21) []:=by unfold aL;rw[oa,if_pos hk]
   rw[e];split<;>exact vD rfl a
  .have e:aL x []=gW (if x.n=0 then 22 else 21) []:=by unfold aL;rw[oa,if_pos hk]
   rw[e];simp[gW,Tr.size,sizes]
  all_goals first
   | (have e:aL x [] =.nd 0 x.n 0 ⟨#[]⟩ []:=(by unfold aL;rw[oa,oa,oc])
      rw[e]
      first
       | exact xW (OP x.n (by simp[bQ,kE,gN,lY]at b;omega)) a
       | simp[Tr.size,sizes])
   | (have e:aL x [] =.nd 1 0 0 x.s []:=(by unfold aL;rw[oa,oa,oa,oc])
      rw[e]
      first
       | exact xW (KV x.s (KF k h)) a
       | simp[Tr.size,sizes])
 .rcases (show T.t=9\/T.t=10\/T.t=11\/T.t=12\/T.t=13 from by omega)with h|h|h|h|h
  all_goals
   rw[h]at hk b
  .have e:aL x l=gW (if l.length=0 then 27 else 26) l:=by unfold aL;rw[oa,oa,oa,oa,if_pos hk]
   rw[e];exact⟨by split<;>exact vD rfl a,by simp[gW,Tr.size],λe=>od⟩
  .have e:aL x l =.nd 3 0 0 ⟨#[]⟩ l:=by unfold aL;rw[oa,oa,oa,oa,oa,oa,oa,if_pos hk]
   rw[e];exact⟨xW (Ez _) a,by simp[Tr.size],λe=>od⟩
  .have e:aL x l=gW 23 l:=by unfold aL;rw[oa,oa,oa,oa,oa,if_pos hk]
   rw[e];exact⟨vD rfl a,by simp[gW,Tr.size],λ_=>⟨l,rfl,a⟩⟩
  .have e:aL x l=gW (if x.n=0 then 24 else 25) l:=by unfold aL;rw[oa,oa,oa,oa,oa,oa,if_pos hk]
   rw[e];exact⟨by split<;>exact vD rfl a,by simp[gW,Tr.size],λe=>od⟩
  .have e:aL x l =.nd 3 0 0 ⟨#[]⟩ (l.map eltT):=by unfold aL;rw[oa,oa,oa,oa,oa,oa,oa,oa,if_pos hk]
   rw[e];refine⟨xW (Ez _) (λt y=>?_),by simp[Tr.size,elts_size],λe=>od⟩;obtain⟨u,A,rfl⟩:=kl.1 y;obtain⟨D,rfl,c⟩:=hm h u A;exact vD (p:=28) rfl c
def Sg{T:Ty}{x:Va}{ts:aw}(h:T.t=13)(a:bS T x=some ts):∀U∈ts,U.t=11:=by
 unfold bS at a;simp only at a;rw[oa,oa,oa,if_pos h]at a;split at a
 .simp only[qq]at a;subst a;intro U b;rw[qe7 b];rfl
 .cases a
def KE(c:Nat):(dJ c []).2=[]:=by simp[dJ]
mutual
def tell_ok:∀(x:Va) (T:Ty) (d c:Nat),hasV x T->eB T->j5 d T->qm (jg c x).2/\(jg c x).2.size+c=(jg c x).1/\(T.t=11->yJ (jg c x).2)
 | .mk k n a s b E z,T,d,c=>by intro j i l;have⟨hk,C,u,q,D,B,ts,f,g⟩:=nY j i;have⟨o,A,p⟩:=tells_ok b ts (c+1) g (Sc j i l f);have⟨v,w,y⟩:=CF j i l (dJ (c+1) b).2 (λe=>by have m:b=[]:=e;rw[m,KE]) o (λh t r=>p (Sg h f) t r);rw[jg];exact⟨v,by simp only;rw[w];omega,y⟩
def tells_ok:∀(xs:ao) (ts:aw) (c:Nat),hasVs xs ts->(∀U∈ts,eB U/\∃d,j5 d U)->(∀t∈(dJ c xs).2,qm t)/\sizes (dJ c xs).2+c=(dJ c xs).1/\((∀U∈ts,U.t=11)->∀t∈(dJ c xs).2,yJ t)
 | [],_,c=>by intros;simp[dJ,sizes]
 | _::_,[],_=>by intro h;simp[hasVs]at h
 | x::xs,T::ts,c=>by
  intro g i;simp only[hasVs,qv]at g;have⟨f,d,e⟩:=i T oe;have⟨j,n,k⟩:=tell_ok x T d c g.1 f e;have⟨l,o,m⟩:=tells_ok xs ts (jg c x).1 g.2 (λU b=>i U (by simp[b]));rw[dJ];split
  .simp[sizes]
  .refine⟨?_,?_,?_⟩
   .intro t a;rcases ke.1 a with rfl|a
    .exact j
    .exact l t a
   .simp only[sizes];omega
   .intro h t a;rcases ke.1 a with rfl|a
    .exact k (h T oe)
    .exact m (λU b=>h U (by simp[b])) t a
end
def dataTs_nil:dataTs []=[]:=by simp[dataTs]
mutual
def data_ok:∀(x:Va) (T:Ty) (d:Nat),hasV x T->eB T->j5 d T->qm (dataT x)/\(dataT x).size=cntV x/\(T.t=11->yJ (dataT x))
 | .mk k n a s b D y,T,d=>by intro i g j;have⟨hk,B,r,p,C,A,ts,c,f⟩:=nY i g;have⟨m,z,o⟩:=datas_ok b ts f (Sc i g j c);have⟨u,v,w⟩:=CF i g j (dataTs b) (λe=>by have l:b=[]:=e;rw[l,dataTs_nil]) m (λh t q=>o (Sg h c) t q);rw[dataT,cntV];exact⟨u,by rw[v];omega,w⟩
def datas_ok:∀(xs:ao) (ts:aw),hasVs xs ts->(∀U∈ts,eB U/\∃d,j5 d U)->(∀t∈dataTs xs,qm t)/\sizes (dataTs xs)=cntVs xs/\((∀U∈ts,U.t=11)->∀t∈dataTs xs,yJ t)
 | [],_=>by intros;simp[dataTs,sizes,cntVs]
 | _::_,[]=>by intro h;simp[hasVs]at h
 | x::xs,T::ts=>by
  intro f g;simp only[hasVs,qv]at f;have⟨e,d,c⟩:=g T oe;have⟨i,m,j⟩:=data_ok x T d f.1 e c;have⟨k,n,l⟩:=datas_ok xs ts f.2 (λU b=>g U (by simp[b]));rw[dataTs,cntVs];refine⟨?_,?_,?_⟩
  .intro t a;rcases ke.1 a with rfl|a
   .exact i
   .exact k t a
  .simp only[sizes];omega
  .intro h t a;rcases ke.1 a with rfl|a
   .exact j (h T oe)
   .exact l (λU b=>h U (by simp[b])) t a
end
def dR (x:Va):Tr:=(jg 0 x).2
def DV{t:Tr}(h:qm t)(b:300<t.size):dS t=4:=by
 unfold dS;rcases h 1 with a|a
 .rw[if_neg (by simpa using a),if_pos b]
 .rw[if_pos (by rw[a];decide),a]
def OD{x:Va}{T:Ty}{d:Nat}(c:hasV x T)(b:eB T)(a:j5 d T):dS (dR x)=dS (dataT x)/\(dS (dR x)=0->dR x=dataT x)/\(dR x).size<=301:=by
 have⟨f,j,_⟩:=tell_ok x T d 0 c b a;have⟨g,k,_⟩:=data_ok x T d c b a;have⟨l,m,i⟩:=tell_most x 0 od;unfold dR
 by_cases h:cntV x<=301
 .have e:=tell_full x 0 od;rw[e];exact⟨rfl,λ_=>rfl,vA⟩
 .have n:=i od;have g1:=DV f od;have g2:=DV g od;rw[g1,g2];exact⟨rfl,λe=>absurd e ov,od⟩
def readTs_length:∀(l:aE) (ts:aw) (ys:ao),readTs l ts=some ys->ys.length=ts.length
 | [],[],ys=>by intro h;simp[readTs]at h;subst h;rfl
 | [],_::_,ys=>by intro h;simp[readTs]at h
 | _::_,[],ys=>by intro h;simp[readTs]at h
 | t::l,T::ts,ys=>by
  intro h;rw[readTs]at h
  cases a:readT t T with
  | none=>rw[a]at h;cases h
  | some x =>
   rw[a]at h;simp only[qT]at h;obtain⟨c,b,rfl⟩:=h;simp[readTs_length l ts c b]
section
open Pe
def adv{K:br}{w w':cg}(h:cq w w' none):Same K w w':=λb o _ a=>kd (h.block b a oe)
def jX{l r:List Prop}(h:∀p∈l,p)(k:∀p∈r,p):∀p∈l++r,p:=λp a=>(ka.1 a).elim (h p) (k p)
def Yp (l:aE) (m:Nat) (t:Tr):Prop:=Bp 5 5 (ndsD l) m=some (.of (.one (.e (ndD t) 0)))
def WV{l:aE}{m:Nat}{t:Tr}(h:l[m]?=some t):Yp l m t:=by unfold Yp Bp;rw[ndsD_map,qa5,h];cases t;rfl
def qY(l:ao):(vasD l).length=l.length:=KK
def Hf(l:aE):(ndsD l).length=l.length:=by simp[ndsD_map]
def row_refl:∀l:bd,L2 Ja l l
 | []=>trivial
 | _::l=>⟨.inl rfl,row_refl l⟩
def rows_refl:∀l:List bd,rowsLe l l
 | []=>trivial
 | _::l=>⟨row_refl _,rows_refl l⟩
def vG{a b:bd}(h:L2 Ja a b):∀l:List bd,rowsLe (l++[a]) (l++[b])
 | []=>⟨h,trivial⟩
 | _::l=>⟨row_refl _,vG h l⟩
def zV (y l:Nat) (es rows:List bd):Prop:=(l<=es.length/\rows≠[])/\jl rows/\l+rows.length<=maxLen/\(l+rows.length)*y<=140737488355328
def iL{y l:Nat}{es rows:List bd}(b:l<=es.length)(a:rows≠[])(d:jl rows)(c:l+rows.length<=100000000)(e:y<=1000):zV y l es rows :=
 ⟨⟨b,a⟩,d,XS,xo (Nat.mul_le_mul c e) ov⟩
def DI{es A:List bd}{r:bd}{m n:Nat}(hm:A.length=m)(b:∀q∈A,q.length=n)(g:r.length=n)(h:es.take (m+1)=A++[r]):dY es (m*n) n=some (r.map .d)/\es.take m=A/\m<=es.length:=by
 have e:A.flatten.length=m*n:=by
  subst hm;clear h
  induction A with
  | nil=>simp
  | cons a A i=>rw[ja2,ju,b a oe,i (λq f=>b q (by simp[f])),jj,qf7];omega
 have c:es.flatten=A.flatten++(r++(es.drop (m+1)).flatten):=by
  conv=>lhs;rw[<-qd1 (m+1) es,h]
  simp
 refine⟨?_,?_,?_⟩
 .unfold dY;rw[c,if_pos (by simp only[ju];omega),<-e,List.drop_left,jd7 g]
 .have:=congrArg (List.take m) h;rw[jg7,jc6 od]at this;rw[this,jd7 hm]
 .have:=congrArg List.length h;simp at this;omega
def DC(l:ao):jl (vasD l):=by rw[vasD_map];simp only[jl,List.all_map,ki,Function.comp];intro y _ x b;have⟨k,n,a,s,r,t,c⟩:=y;simp only[vaD,ke,qd7,or_false]at b;rcases b with rfl|rfl|rfl|rfl|rfl|rfl|rfl<;>rfl
def LQ(xs:ao)(x:Va):vasD (xs++[x])=vasD xs++[vaD x]:=KK
def Tg{ok:br}{w w':cg}{e:TypeId}{n g cap:Nat}(hn:0<n)(h:w'.ownsRow w.heap.size e n (.o g 0 cap) 0 []):Jh ok w w' e n [] (.o g 0 cap):=by
 obtain⟨_,⟨h,_⟩|⟨g,cap,c,h,hb,a,f,d,b,_⟩⟩:=h
 .cases h
 .simp only[ye,qq,jb2,and_true,true_and]at h;obtain⟨rfl,rfl⟩:=h;exact⟨_,_,rfl,hb,yb _,by rw[Zp,a];simp only[b],_,c,_,⟨rfl,jn _⟩,a,b,yb _,d,hn,oe,oe⟩
def KC(s:aw):jl (tysD s):=by rw[tysD_map];simp only[jl,List.all_map,ki,Function.comp];intro T _ x b;have⟨t,a⟩:=T;simp only[tyD,ke,qd7,or_false]at b;rcases b with rfl|rfl<;>rfl
def Jr{T:Ty}{n:Nat}(C:okT T)(hn:n<1000):Hd ⟨53,[dZ [T],iA n],.of (dZ (List.replicate n T))⟩:=⟨tF func53,λok w F h=>by
 match F,h with
 | [u,v],⟨z,A,_⟩ =>
  obtain⟨a,c,V,rfl,_,q⟩:=jR (ts:=[T]) ⟨C,trivial⟩ (.inl rfl) z;obtain rfl:=bW A;obtain⟨b,o,rfl,_,m,d,l,f,k,x,y⟩:=q.2.1 0 oe;have p:=q.2.2 0 oe;rw[k]at p;refine (Rw m d l f b o n c hn w (by simpa using x) (by simpa using y)).mono ?_;rintro e G ⟨g,rfl,D,⟨t,s,J,K,E⟩,r⟩;have B:dw (λb=>ok b\/w.heap.size<=b) G (List.replicate n T) (some ⟨g,0,none⟩) (λ_=>bY m d l f):=by
   refine⟨by simp[maxLen];omega,λi j=>?_,λi j=>?_⟩
   .rw[jd1]at j;have⟨H,I⟩:=E i j;refine⟨g,0,rfl,.inr D,m,d,l,f,rfl,?_,?_⟩<;>rw[qb4]
    .simp[World.cell?,s,H]
    .simp[World.cell?,s,I]
   .rw[List.getElem_replicate];exact (aH.same p (adv r)).ae λb _ h=>.inl h
  have:=(qV (c:=n) B oe).2;rw[jd1]at this;exact⟨r,_,rfl,this⟩⟩
end
def EZ:(prog.info? 78).map (λi=>(i.zero,i.size,i.bytes))=some (some (.agg #[.i 0,.n0,.i 0,.i 0,.i 0,.string ⟨#[]⟩,.n0,.n0,.n0]),9,144):=oA
def GrowAt (g:FuncId) (e:TypeId) (c:Nat):Prop:=(g=168/\e=29/\c=7)\/(g=203/\e=25/\c=2)\/(g=70/\e=78/\c=9)
section
open Pe
variable {g:FuncId}{e:TypeId}{c n:Nat}
def Hl(f:GrowAt g e c)(h0:n≠0)(hn:n<=20000000):HdF g [nilA,iA n] (.kv e c []):=⟨by rcases f with⟨rfl,_⟩|⟨rfl,_⟩|⟨rfl,_⟩<;>first|exact tF func168|exact tF func203|exact tF func70,λok w F h=>by
 match F,h with
 | [u,v],⟨l,m,_⟩ =>
  obtain⟨a,G,_,rfl,_⟩:=fH (show fI ok w (.s 0 []) u from l);obtain⟨rfl,rfl⟩:=Rv l rfl;obtain rfl:=bW m;have E:(n:Int)<=20000000:=od
  have C:¬(n:Int)<0:=od
  have r:(n:Int) > 0:=od
  have Z:=λ{t e:TypeId} {z:cm} {c y:Nat} (i:(prog.info? e).map (λi=>(i.zero,i.size,i.bytes))=some (some z,c,y)) (u:prog.underlying t=some (.slice e)) (l:0<c) (m:z.cells.size=c) (D:y<=1000)=>zG w t 3 t e .i64 .i64 z c y i u underlying3 n od l m od D;rcases f with⟨rfl,rfl,rfl⟩|⟨rfl,rfl,rfl⟩|⟨rfl,rfl,rfl⟩
  case' inl=>have⟨b,d,A,o,j,f,q,k⟩:=Z Qx underlying26 ov rfl ov
  case' inr.inl=>have⟨b,d,A,o,j,f,q,k⟩:=Z GK underlying23 ov rfl ov
  case' inr.inr=>have⟨b,d,A,o,j,f,q,k⟩:=Z EZ underlying79 ov rfl ov
  all_goals
   have HO:=jh j;have B:=jh f;clear j f Z;refine Calls.mono (R:=λx p=>∃g d,x =.returned (.o g 0 d)/\p.ownsRow w.heap.size _ _ (.o g 0 d) 0 []/\cq w p none) ?_ (λx p ⟨g,d,e,j,f⟩=>⟨f,_,e,Tg ov j⟩)
   first|go_enter func168,ntmps168|go_enter func203,ntmps203|go_enter func70,ntmps70
   go_wp2_with (at_builtin;refine Lib.wpList_append_run _ rfl _ _ _ _ rfl _ _ rfl rfl _ _ o ?_);go_ret;exact⟨_,_,rfl,HO,B⟩⟩
def Hz(b:GrowAt g e c):Hd ⟨g,[nilA,iA 0],.of nilA⟩:=⟨by rcases b with⟨rfl,_⟩|⟨rfl,_⟩|⟨rfl,_⟩<;>first|exact tF func168|exact tF func203|exact tF func70,λj w k h=>by
 match k,h with
 | [u,v],⟨d,i,_⟩ =>
  obtain⟨a,l,_,rfl,_⟩:=fH (show fI j w (.s 0 []) u from d);obtain⟨rfl,rfl⟩:=Rv d rfl;obtain rfl:=bW i;refine Calls.mono (R:=λx f=>x =.returned (.n0)/\cq w f none) ?_ (λx f ⟨e,b⟩=>⟨b,_,e,PI _ _ (.n0)⟩);rcases b with⟨rfl,_⟩|⟨rfl,_⟩|⟨rfl,_⟩
  all_goals
   first|go_enter func168,ntmps168|go_enter func203,ntmps203|go_enter func70,ntmps70
   go_wp2;go_ret;exact⟨rfl,bf _ _⟩⟩
end
open Pe
def acM (f g:FuncId) (F:Func) (e:TypeId) (c y:Nat):Prop:=(f=218/\g=168/\F=f218/\e=29/\c=7/\y=112)\/(f=181/\g=203/\F=f181/\e=25/\c=2/\y=32)
section
variable {m n:Nat}{X Y:List bd}
def caR (m n:Nat) (X Y:List bd):A1:=.one (.d (.s 1 [[.s m X],[.s n Y]]))
def ca1 (m n:Nat) (X Y:List bd) (i:Int) (z:A1):St:=[((0,0),.of (caR m n X Y)),((0,9),.of (caR m n X Y)),((0,10),.of (iA 2)),((0,11),.of (iA i)),((0,3),.of z)]
def ca2 (e:TypeId) (c m n:Nat) (X Y:List bd) (i:Int) (k l:Nat) (es:List bd):St:=[((0,25),.of (caR m n X Y)),((0,26),.of (iA 2)),((0,27),.of (iA i)),((0,6),.of (.one (.g k c l))),((k+1,0),.kv e c es)]
def caN (m n:Nat) (i:Int):St:=[((0,25),.of (caR m n [] [])),((0,26),.of (iA 2)),((0,27),.of (iA i)),((0,6),.of nilA)]
abbrev caL (F:Func) (i:Nat) (pre:St) (ex:Nat) (post:St):Prop:=vO prog F.ntmps ⟨kC F i,pre,ex,post⟩
variable {f g:FuncId}{F:Func}{e:TypeId}{c y:Nat}(hb:acM f g F e c y)
include hb
def acb(h:X.length+Y.length<=20000000):caL F 0 (ca1 m n X Y 0 (iA 0)) 2 [((0,0),.of (caR m n X Y)),((0,3),.of (jA (X.length+Y.length)))]:=by
 have b:mD (lW (IntKind.i64.wrap (0+(X.length:Int)))) (jA X.length):=yY (zF oe oe ot);have c:mD (lW (IntKind.i64.wrap (Int.ofNat X.length+(Y.length:Int)))) (jA (X.length+Y.length)):=yY (zF oe ot ot);have a:∀j:Nat,mD (aQ (decide (Int.ofNat j<0))) fA:=λj=>wH oe;rcases hb with⟨_,_,rfl,_⟩|⟨_,_,rfl,_⟩
 all_goals
  refine LG (pre2:=ca1 m n X Y 1 (jA X.length)) [(18,jA X.length),(20,fA)] [] (LG (pre2:=ca1 m n X Y 2 (jA (X.length+Y.length))) [(18,jA (X.length+Y.length)),(20,fA)] [] (xQ (e:=1) [] [] al0) (al c (al (a (X.length+Y.length)) al0))) (al b (al (a X.length) al0))
variable {k l:Nat}{es:List bd}{i:Int}{post:St}(hk:k=3000024\/k=3000033)
include hk
def ca_end:caL F 1 (ca2 e c m n X Y 2 k l es) 4 [((0,6),.of (.one (.g k c l))),((k+1,0),.kv e c es)]:=by rcases hb with⟨_,_,rfl,rfl,rfl,_⟩|⟨_,_,rfl,rfl,rfl,_⟩<;>rcases hk with rfl|rfl<;>exact xQ (e:=3) [] [] al0
def abh(hi:i=0/\X=[]\/i=1/\Y=[])(h:caL F 1 (ca2 e c m n X Y (i+1) k l es) 4 post):caL F 1 (ca2 e c m n X Y i k l es) 4 post:=by have G:=λo a=>LG [(33,.one (.g k c l))] [] h (al (⟨rfl,rfl,rfl⟩:some (AV.of (.one (.g k c l)))=some (.of (.one (.g k c l)))/\([]:List bd)=[]/\true) al0) (pre:=ca2 e c m n X Y i k l es) (h:=o) (hc:=a);rcases hb with⟨_,_,rfl,rfl,rfl,_⟩|⟨_,_,rfl,rfl,rfl,_⟩<;>rcases hk with rfl|rfl<;>rcases hi with⟨rfl,rfl⟩|⟨rfl,rfl⟩<;>exact G oA oA
def Il{x:bd}{R:List bd}(hi:i=0/\X=x::R/\m=c\/i=1/\Y=x::R/\n=c)(a:rowsLe (es.take l++(x::R)) (es++x::R))(b:zV y l es (x::R))(h:caL F 1 (ca2 e c m n X Y (i+1) 3000033 (l+(x::R).length) (es++x::R)) 4 post):caL F 1 (ca2 e c m n X Y i k l es) 4 post:=by have G:=λo f=>LG [(2000033,.one (.d (.s c (es++x::R))))] [] h (al a (al b al0)) (pre:=ca2 e c m n X Y i k l es) (h:=o) (hc:=f);rcases hb with⟨_,_,rfl,rfl,rfl,rfl⟩|⟨_,_,rfl,rfl,rfl,rfl⟩<;>rcases hk with rfl|rfl<;>rcases hi with⟨rfl,rfl,rfl⟩|⟨rfl,rfl,rfl⟩<;>exact G oA oA
omit hk in
def aca(hm:m=c\/X=[])(hn:n=c\/Y=[])(d:jl X)(f:jl Y)(a:X.length+Y.length<=20000000)(h0:X.length+Y.length≠0):caL F 1 (ca2 e c m n X Y 0 3000024 0 []) 4 [((0,6),.of (.one (.g 3000033 c (X++Y).length))),((3000033+1,0),.kv e c (X++Y))]:=by
 have j:y<=1000:=by rcases hb with h|h<;>omega
 have b:=λ{es:List bd} {x:bd} {R:List bd} (h:jl (x::R)) (k:es.length+(x::R).length<=20000000)=>(⟨by rw[je7];exact rows_refl _,iL (jn _) oe h od j⟩:rowsLe (es.take es.length++(x::R)) (es++x::R)/\zV y es.length es (x::R));rcases X with _|⟨x,X⟩
 .rcases Y with _|⟨z,Y⟩
  .exact absurd rfl h0
  .have:=abh (m:=m) (n:=n) (i:=0) hb (.inl rfl) (.inl ⟨rfl,rfl⟩) (Il hb (.inl rfl) (.inr ⟨rfl,rfl,hn.resolve_right oe⟩) (b f (by simp at a|-;omega)).1 (b f (by simp at a|-;omega)).2 (ca_end (X:=[]) hb (.inr rfl)));rw[qa0,qb4]at this;exact this
 .rcases Y with _|⟨z,Y⟩
  .have:=Il (m:=m) (n:=n) (i:=0) hb (.inl rfl) (.inl ⟨rfl,rfl,hm.resolve_right oe⟩) (b (es:=[]) d (by simp at a|-;omega)).1 (b (es:=[]) d (by simp at a|-;omega)).2 (abh (Y:=[]) hb (.inr rfl) (.inr ⟨rfl,rfl⟩) (ca_end hb (.inr rfl)));rw[qa0,qb4]at this;rw[qb0];exact this
  .have:=Il (m:=m) (n:=n) (i:=0) hb (.inl rfl) (.inl ⟨rfl,rfl,hm.resolve_right oe⟩) (b (es:=[]) d (by simp at a|-;omega)).1 (b (es:=[]) d (by simp at a|-;omega)).2 (by
    have:=Il (es:=x::X) (m:=m) (n:=n) (i:=1) (X:=x::X) hb (.inr rfl) (.inr ⟨rfl,rfl,hn.resolve_right oe⟩) (b f (by simp at a|-;omega)).1 (b f (by simp at a|-;omega)).2 (ca_end hb (.inr rfl));rw[<-ju]at this;rw[qa0,qb4];exact this)
   exact this
omit hk in
def aa8(hm:m=c\/X=[])(hn:n=c\/Y=[])(A:jl X)(B:jl Y)(o:X.length+Y.length<=20000000):Hd ⟨f,[caR m n X Y],.of (.one (.d (.s c (X++Y))))⟩:=by
 have y:=acb (m:=m) (n:=n) hb o;have k:GrowAt g e c:=by rcases hb with⟨_,rfl,_,rfl,rfl,_⟩|⟨_,rfl,_,rfl,rfl,_⟩<;>first|exact .inl ⟨rfl,rfl,rfl⟩|exact .inr (.inl ⟨rfl,rfl,rfl⟩)
 have z:prog.funcs[f]?=some F:=by rcases hb with⟨rfl,_,rfl,_⟩|⟨rfl,_,rfl,_⟩<;>first|exact func218|exact func181
 by_cases t:X.length+Y.length=0
 .obtain rfl:X=[]:=jx od;obtain rfl:Y=[]:=jx od;have j:=Hz k;have r:some (AV.of nilA)=some (.of nilA)/\([]:List bd)=[]/\nilA.isS:=⟨rfl,rfl,rfl⟩;have C:caL F 1 (caN m n 0) 4 [((0,6),.of nilA)]:=by
   rcases hb with⟨_,_,rfl,_⟩|⟨_,_,rfl,_⟩<;>exact LG (pre2:=caN m n 1) [(33,nilA)] [] (LG (pre2:=caN m n 2) [(33,nilA)] [] (xQ (e:=3) [] [] al0) (al r al0)) (al r al0)
  have p:Hd ⟨f,[caR m n [] []],.of nilA⟩:=by
   refine Ce z [] [_,_] (by intro x a;rcases ke.1 a with rfl|a;exact y;rw[qu]at a;subst a;exact C) [⟨_,j⟩] (jX (wI (S:=ca1 m n [] [] 0 (iA 0)) (q:=kC F 0=kC F 0) rfl (ps:=[]) al0) (wI (S:=caN m n 0) (q:=kC F 1=kC F 1) rfl (ps:=[]) al0)) (h:=?_) (hb:=?_) (hn:=?_)
   all_goals rcases hb with⟨rfl,rfl,rfl,rfl,rfl,_⟩|⟨rfl,rfl,rfl,rfl,rfl,_⟩<;>kernel_rfl
  exact p.conv (λ_ _ _ h=>h) λG w v h=>gG (show fI G w (.s 0 []) v from h) (by rcases hb with h|h<;>omega)
 .have j:=Hl k t o;have u:=aca hb hm hn A B o t;have⟨E,i⟩:∃E,E=X++Y:=⟨_,rfl⟩;have⟨l,b⟩:∃l,l=E.length:=⟨_,rfl⟩;rw[<-i,<-b]at u;rw[<-i];clear i A B hm hn k;refine Ce z [] [_,_] (by intro x a;rcases ke.1 a with rfl|a;exact y;rw[qu]at a;subst a;exact u) [⟨_,j⟩] (jX (jX (wI (S:=ca1 m n X Y 0 (iA 0)) (q:=kC F 0=kC F 0) rfl (ps:=[]) al0) (wI (S:=ca2 e c m n X Y 0 3000024 0 []) (q:=kC F 1=kC F 1) rfl (ps:=[]) al0)) (al b al0)) (h:=?_) (hb:=?_) (hn:=?_)
  all_goals rcases hb with⟨rfl,rfl,rfl,rfl,rfl,_⟩|⟨rfl,rfl,rfl,rfl,rfl,_⟩<;>kernel_rfl
end
def gV:GrowAt 168 29 7:=.inl ⟨rfl,rfl,rfl⟩
def gK:GrowAt 70 78 9:=.inr (.inr ⟨rfl,rfl,rfl⟩)
def Da{l r:ao}{m n:Nat}(hm:m=7\/l=[])(hn:n=7\/r=[])(a:l.length+r.length<=20000000):Hd ⟨218,[.one (.d (.s 1 [[.s m (vasD l)],[.s n (vasD r)]]))],.of (qi (l++r))⟩:=by have:=aa8 (.inl ⟨rfl,rfl,rfl,rfl,rfl,rfl⟩) (hm.imp_right (congrArg vasD)) (hn.imp_right (congrArg vasD)) (DC l) (DC r) (by rw[qY,qY];exact a);rw[show vasD l++vasD r=vasD (l++r) by simp[vasD_map]]at this;exact this
def lg{x y:aw}{m n:Nat}(hm:m=2\/x=[])(hn:n=2\/y=[])(a:x.length+y.length<=20000000):Hd ⟨181,[.one (.d (.s 1 [[.s m (tysD x)],[.s n (tysD y)]]))],.of (dZ (x++y))⟩:=by have:=aa8 (.inr ⟨rfl,rfl,rfl,rfl,rfl,rfl⟩) (hm.imp_right (congrArg tysD)) (hn.imp_right (congrArg tysD)) (KC x) (KC y) (by rw[eY,eY];exact a);rw[show tysD x++tysD y=tysD (x++y) by simp[tysD_map]]at this;exact this
section
def brS:aw->D
 | []=>.s 0 []
 | T::ts=>.s 2 (tysD (T::ts))
def brA:Option (Int×aw)->AV
 | none=>.rz [iA 0,.one (.d (brS [])),bA false]
 | some (m,ts)=>.rz [iA m,.one (.d (brS ts)),bA true]
def O3{T:Ty}{d:Nat}(m:j5 d T)(p:Int):Hd ⟨146,[tyA T,iA p],brA (dL T p)⟩:=by
 have⟨e,_⟩:=jU m;have⟨t,args⟩:=T;simp only[Ty.t,Ty.args]at e;have c:∀{a b:Int},a≠b->jJ (decide (a=b)) false:=λh=>eT (xb h);have i:args.length=2->∃A B,args=[A,B]:=λh=>by match args,h with|[A,B],_=>exact⟨A,B,rfl⟩
 by_cases l:t=1
 .subst l
  by_cases q:p=20
  .subst q;exact aF func146 []
  .rw[show dL (.nd 1 args) p=none by simp[dL,Ty.t,q]];exact runT func146 [(13,bA false)] [] (al (c q) al0)
 by_cases j:t=2
 .subst j
  by_cases q:p=22
  .subst q;exact aF func146 []
  by_cases r:p=21
  .subst r;exact aF func146 []
  rw[show dL (.nd 2 args) p=none by simp[dL,Ty.t,q,r]];exact runT func146 [(21,bA false),(29,bA false)] [] (al (c q) (al (c r) al0))
 by_cases k:t=9
 .subst k;obtain⟨A,rfl⟩:=ja5.1 (show args.length=1 by simp[bT]at e;omega)
  by_cases q:p=27
  .subst q;exact aF func146 []
  by_cases r:p=26
  .subst r;exact aF func146 []
  rw[show dL (.nd 9 [A]) p=none by simp[dL,Ty.t,q,r]];exact runT func146 [(37,bA false),(45,bA false)] [] (al (c q) (al (c r) al0))
 by_cases g:t=11
 .subst g;obtain⟨A,B,rfl⟩:∃A B,args=[A,B]:=i (by simp[bT]at e;omega)
  by_cases q:p=23
  .subst q;exact aF func146 []
  rw[show dL (.nd 11 [A,B]) p=none by simp[dL,Ty.t,q]];exact runT func146 [(55,bA false)] [] (al (c q) al0)
 by_cases f:t=12
 .subst f;obtain⟨A,B,rfl⟩:∃A B,args=[A,B]:=i (by simp[bT]at e;omega)
  by_cases q:p=24
  .subst q;exact aF func146 []
  by_cases r:p=25
  .subst r;exact aF func146 []
  rw[show dL (.nd 12 [A,B]) p=none by simp[dL,Ty.t,q,r]];exact runT func146 [(65,bA false),(76,bA false)] [] (al (c q) (al (c r) al0))
 rw[show dL (.nd t args) p=none by simp[dL,Ty.t,l,j,k,g,f]];exact runT func146 [(10,bA false),(18,bA false),(26,bA false),(34,bA false),(42,bA false),(52,bA false),(62,bA false),(73,bA false)] [] (al (c l) (al (c j) (al (c j) (al (c k) (al (c k) (al (c g) (al (c f) (al (c f) al0))))))))
def M7{T:Ty}{p m:Int}{ts:aw}(h:dL T p=some (m,ts)):∀U∈ts,U∈T.args:=by
 unfold dL at h
 repeat' split at h
 all_goals first
  | (cases h;done)
  | (simp only[qq,js]at h
     obtain⟨rfl,rfl⟩:=h
     first
      | exact λU a=>a
      | exact λU a=>qe5 a
      | exact λU a=>qh3 a
      | (intro U a;cases a;done))
def vw{a b:Int}{s:bp}{l:ao}(c:bD a)(d:bD b)(e:s.size<=maxLen)(f:okVs l):okV (fM a b s l):=⟨⟨c,d,i64,e⟩,f,trivial,trivial⟩
mutual
def readT_okV:∀(t:Tr) (T:Ty) (x:Va),okN t->readT t T=some x->okV x
 | .nd k n p s a,T,x,d=>by
  intro h;have f:(⟨#[]⟩:bp).size<=maxLen:=ov
  rw[readT]at h;split at h
  .rename_i c;split at h
   .simp only[qq]at h;subst h;exact vw vu d.1.2.1 f trivial
   .cases h
  .split at h
   .split at h
    .simp only[qq]at h;subst h;exact vw i64 i64 d.1.2.2.2 trivial
    .cases h
   .split at h
    .split at h
     .simp only[qT]at h;obtain⟨e,b,rfl⟩:=h;exact vw i64 i64 f (readTs_okV a _ e d.2 b)
     .cases h
    .split at h
     .split at h
      .simp only[qT]at h;obtain⟨e,b,rfl⟩:=h;exact vw i64 i64 f (readEs_okV a _ e d.2 b)
      .cases h
     .split at h
      .cases h
      .rename_i m ts hb;simp only[qT]at h;obtain⟨e,b,rfl⟩:=h;unfold dL at hb;have g:(0<=T.t/\T.t<=20)/\(m=0\/m=1):=by
        repeat' split at hb
        all_goals first|(cases hb;done)|(simp only[qq,js]at hb;omega)
       exact vw vu vu f (readTs_okV a _ e d.2 b)
def readTs_okV:∀(l:aE) (ts:aw) (xs:ao),okNs l->readTs l ts=some xs->okVs xs
 | [],[],xs,_=>by intro h;simp[readTs]at h;subst h;trivial
 | [],_::_,xs,_=>by intro h;simp[readTs]at h
 | _::_,[],xs,_=>by intro h;simp[readTs]at h
 | t::l,T::ts,xs,b=>by
  intro h;rw[readTs]at h
  cases a:readT t T with
  | none=>rw[a]at h;cases h
  | some x =>
   rw[a]at h;simp only[qT]at h;obtain⟨d,c,rfl⟩:=h;exact⟨readT_okV t T x b.1 a,readTs_okV l ts d b.2 c⟩
def readEs_okV:∀(l:aE) (ts:aw) (xs:ao),okNs l->readEs l ts=some xs->okVs xs
 | [],ts,xs,_=>by intro h;simp[readEs]at h;subst h;trivial
 | .nd k n p s a::l,ts,xs,c=>by
  intro h;rw[readEs]at h
  cases b:readTs a ts with
  | none=>rw[b]at h;cases h
  | some e =>
   rw[b]at h;simp only at h;split at h
   .simp only[qT]at h;obtain⟨f,d,rfl⟩:=h;exact⟨vw i64 i64 ov (readTs_okV a ts e c.1.2 b),readEs_okV l ts f c.2 d⟩
   .cases h
end
def rdA (T:Ty) (m:Int) (s:bp):Option Va->AV
 | some x=>.rz [pF x,bA true]
 | none=>.rz [.agg [.d (.v (.i T.t)),.d (.v (.i m)),.d (.v (.i 0)),.d (.v (.string s)),.d (.s 0 []),.d (.s 0 []),.d (.s 0 [])],bA false]
def F7 (N:Nat):Prop:=∀(t:Tr) (T:Ty) (d:Nat),t.size<=N->t.size<=900->okN t->okT T->j5 d T->∃m s,Hd ⟨124,[tyA T,ndA t],rdA T m s (readT t T)⟩
def readTs_len:∀(l:aE) (ts:aw),l.length≠ts.length->readTs l ts=none
 | [],[],h=>by simp at h
 | [],_::_,_=>by simp[readTs]
 | _::_,[],_=>by simp[readTs]
 | t::l,T::ts,h=>by
  rw[readTs]
  cases readT t T with
  | none=>rfl
  | some x=>simp[readTs_len l ts (by simpa using h)]
def eachA:Option ao->AV
 | some xs=>.rz [qi xs,bA true]
 | none=>.rz [nilA,bA false]
def Pe.Holds.ac7{f:FuncId}{args:List A1}(h:Hd ⟨f,args,.rz [nilA,bA true]⟩):Hd ⟨f,args,.rz [qi [],bA true]⟩:=h.conv (λ_ _ _ h=>h) λok w v h=>by
 have⟨d,e,c⟩:=h
 match d,c with
 | [u,v],⟨a,b,_⟩=>exact⟨_,e,gG (show fI ok w (.s 0 []) u from a),b,trivial⟩
def ecS (k:Nat) (l:aE) (ts:aw) (xs:ao) (j:Nat):St:=[((0,1),.of (dZ ts)),((0,6),.of (.one (.g k 7 j))),((k+1,0),.kv 29 7 (vasD xs)),((0,19),.of (CW l)),((0,20),lW (ndsD l).length),((0,21),.of (jA j))]
abbrev ecP:St:=[((0,4),.of nilA),((0,5),.of (bA false))]
abbrev ecQ (k n:Nat) (xs:ao):St:=[((0,6),.of (.one (.g k 7 n))),((k+1,0),.kv 29 7 (vasD xs))]
section
variable {N d:Nat}{l:aE}{ts:aw}
def abr(c:F7 N)(f:okNs l)(g:okTs ts)(e:∀U∈ts,j5 d U)(n:sizes l<=N)(k:sizes l<=900){j:Nat}(a:j<l.length)(b:j<ts.length):∃m s,Hd ⟨124,[tyA ts[j],ndA l[j]],rdA ts[j] m s (readT l[j] ts[j])⟩:=by have h:=gH l j a;have i:=jF l (j+1);exact c _ _ d od od (okNs_at.1 f _ (yv a)) (okTs_at.1 g _ (yv b)) (e _ (yv b))
def Pt(D:F7 N)(F:okNs l)(H:okTs ts)(E:∀U∈ts,j5 d U)(J:sizes l<=N)(C:sizes l<=900){j k:Nat}{xs:ao}{x:Va}{ex:Nat}{post:St}(hk:k=3000018\/k=3000040)(R:xs.length=j)(r:j<l.length)(u:j<ts.length)(I:readT l[j] ts[j]=some x)
 (hn:vO prog f144.ntmps ⟨gF f144,ecS 3000040 l ts (xs++[x]) (j+1),ex,post⟩):vO prog f144.ntmps ⟨gF f144,ecS k l ts xs j,ex,post⟩:=by
 have⟨m,s,q⟩:=abr D F H E J C r u;rw[I]at q;have G:=cB l;have K:=is_lt (a:=Int.ofNat j) (b:=((ndsD l).length:Int)) OR;have L:=WV (qt r);have c:∃t a,ts[j] =.nd t a:=by cases ts[j];exact⟨_,_,rfl⟩
 have⟨t,a,c⟩:=c;have M:=EK (s:=ts) (m:=j) (t:=t) (a:=a) (by rw[qt u,c]);rw[c]at q;have O:mD (lW (IntKind.i64.wrap (Int.ofNat j+1))) (jA (j+1)):=yY (zF oe ot ot);have P:rowsLe ((vasD xs).take j++[vaD x]) (vasD (xs++[x])):=by rw[LQ,ub US];exact rows_refl _
 have Q:=iL (y:=112) (l:=j) (es:=vasD xs) (rows:=[vaD x]) US oe (DC [x]) ot ov;generalize l[j]=y at *;have⟨v,w,z,B,A⟩:=y;have⟨h,i,g,p,n,o,f⟩:=x;rcases hk with rfl|rfl<;>exact LG [(22,bA true),(24,.one (.e (ndD (.nd v w z B A)) 0)),(29,.one (.e (tyD (.nd t a)) 0)),(2000040,.one (.d (.s 7 (vasD (xs++[.mk h i g p n o f]))))),(41,jA (j+1))] [⟨_,q⟩] hn (al K (al L (al M (al P (al Q (al O al0))))))
def abq(u:F7 N)(w:okNs l)(x:okTs ts)(v:∀U∈ts,j5 d U=true)(A:sizes l<=N)(r:sizes l<=900){j k:Nat}{xs:List Va}(hk:k=3000018\/k=3000040)(f:j<l.length)(g:j<ts.length)(z:readT l[j] ts[j]=none):vO prog f144.ntmps ⟨gF f144,ecS k l ts xs j,1,ecP⟩:=by
 obtain⟨m,s,c⟩:=abr u w x v A r f g;rw[z]at c;have B:=is_lt (a:=Int.ofNat j) (b:=((ndsD l).length:Int)) OR;have C:=WV (qt f);obtain⟨t,a,h⟩:∃t a,ts[j] =.nd t a:=by cases ts[j];exact⟨_,_,rfl⟩
 have D:=EK (s:=ts) (m:=j) (t:=t) (a:=a) (by rw[qt g,h]);rw[h]at c;generalize l[j]=y at *;obtain⟨i,n,o,q,p⟩:=y;rcases hk with rfl|rfl<;>exact xQ (e:=0) [(22,bA true),(24,.one (.e (ndD (.nd i n o q p)) 0)),(29,.one (.e (tyD (.nd t a)) 0))] [⟨_,c⟩] (ob:=[mD (aQ (decide (Int.ofNat j<((ndsD l).length:Int)))) (bA true),Yp l j (.nd i n o q p),OQ ts j t a]) (al B (al C (al D al0)))
def PH(g:F7 N)(m:okNs l)(n:okTs ts)(k:∀U∈ts,j5 d U=true)(p:sizes l<=N)(f:sizes l<=900)(a:l.length=ts.length):∀(i j:Nat) (xs:List Va),j+i=l.length->xs.length=j -> 
 (readTs (l.drop j) (ts.drop j)=none->vO prog f144.ntmps ⟨gF f144,ecS 3000040 l ts xs j,1,ecP⟩)/\∀ys,readTs (l.drop j) (ts.drop j)=some ys->vO prog f144.ntmps ⟨gF f144,ecS 3000040 l ts xs j,2,ecQ 3000040 l.length (xs++ys)⟩
 | 0,j,xs,t,o=>by
  have r:l.drop j=[]:=List.drop_of_length_le od;have s:ts.drop j=[]:=List.drop_of_length_le od;rw[r,s];refine⟨λh=>by simp[readTs]at h,λys h=>?_⟩;simp only[readTs,qq]at h;subst h;rw[qb0];obtain rfl:j=l.length:=od
  exact xQ (e:=1) [(22,bA false)] [] (ob:=[mD (aQ (decide (Int.ofNat l.length<((ndsD l).length:Int)))) (bA false)]) (al (wH (by rw[Hf];simp)) al0)
 | i+1,j,xs,t,o=>by
  have b:j<l.length:=od
  have c:j<ts.length:=od
  rw[kB b,kB c,readTs]
  cases q:readT l[j] ts[j]with
  | none=>exact⟨λ_=>abq g m n k p f (.inr rfl) b c q,λys h=>by cases h⟩
  | some x =>
   obtain⟨u,v⟩:=PH g m n k p f a i (j+1) (xs++[x]) od (by simp[o]);refine⟨λh=>Pt g m n k p f (.inr rfl) o b c q (u (by simpa using h)),λys h=>?_⟩;simp only[qT]at h;obtain⟨w,h,rfl⟩:=h;have:=Pt g m n k p f (.inr rfl) o b c q (v w h);rwa [qa6,jb1]at this
def Hm(k:F7 N){n:Nat}(hn:n=2\/ts=[])(o:okNs l)(p:okTs ts)(m:∀U∈ts,j5 d U=true)(t:sizes l<=N)(j:sizes l<=900):Hd ⟨144,[CW l,.one (.d (.s n (tysD ts)))],eachA (readTs l ts)⟩:=by
 have B:=cB l
 by_cases a:l.length=ts.length
 .have z:jJ (!decide (((ndsD l).length:Int)=((tysD ts).length:Int))) false:=eT (by rw[Hf,eY];simp[a]);rcases l with _|⟨y,l⟩
  .obtain rfl:ts=[]:=jx (by simpa using a.symm);have A:vO prog f144.ntmps ⟨gF f144,[((0,6),.of nilA),((0,20),lW 0),((0,21),.of (jA 0))],2,[((0,6),.of nilA)]⟩:=xQ (e:=1) [] [] (ob:=[]) al0;have : Hd ⟨144,[CW [],.one (.d (.s n (tysD [])))],.rz [nilA,bA true]⟩:=Ce func144 [] [⟨gF f144,[((0,6),.of nilA),((0,20),lW 0),((0,21),.of (jA 0))],2,[((0,6),.of nilA)]⟩] (by intro x b;rw[qu]at b;subst b;exact A) [⟨_,Hz gV⟩] (wI (S:=[((0,6),.of nilA),((0,20),lW 0),((0,21),.of (jA 0))]) (q:=gF f144=gF f144) rfl (ps:=[]) al0);exact this.ac7
  .obtain rfl:n=2:=hn.resolve_right (λh=>by rw[h]at a;simp at a);have v:=Hl gV (n:=(ndsD (y::l)).length) (by simp[ndsD]) (by rw[Hf];omega);have u:0<(y::l).length:=by simp
   have i:0<ts.length:=od
   have w:=PH k o p m t j a l.length 1;have g:(readTs (y::l) ts=none->vO prog f144.ntmps ⟨gF f144,ecS 3000018 (y::l) ts [] 0,1,ecP⟩)/\∀f,readTs (y::l) ts=some f->vO prog f144.ntmps ⟨gF f144,ecS 3000018 (y::l) ts [] 0,2,ecQ 3000040 (y::l).length f⟩:=by
    rcases ts with _|⟨T,ts⟩
    .simp at i
    rw[readTs]
    cases c:readT y T with
    | none=>exact⟨λ_=>abq k o p m t j (.inl rfl) u i c,λf h=>by cases h⟩
    | some x =>
     obtain⟨C,D⟩:=w [x] ot rfl;refine⟨λh=>Pt k o p m t j (.inl rfl) rfl u i c (C (by simpa using h)),λf h=>?_⟩;simp only[qT]at h;obtain⟨zs,h,rfl⟩:=h;exact Pt k o p m t j (.inl rfl) rfl u i c (D zs (by simpa using h))
   clear w
   cases c:readTs (y::l) ts with
   | none=>exact Ce func144 [(15,fA)] [_] (by intro x b;rw[qu]at b;subst b;exact g.1 c) [⟨_,v⟩] (wI (S:=ecS 3000018 (y::l) ts [] 0) (q:=gF f144=gF f144) rfl (ps:=[jJ (!decide (((ndsD (y::l)).length:Int)=((tysD ts).length:Int))) false]) (al z al0))
   | some f =>
    have E:=readTs_length _ _ _ c;exact Ce func144 [(15,fA)] [_] (by intro x b;rw[qu]at b;subst b;exact g.2 f c) [⟨_,v⟩] (jX (wI (S:=ecS 3000018 (y::l) ts [] 0) (q:=gF f144=gF f144) rfl (ps:=[jJ (!decide (((ndsD (y::l)).length:Int)=((tysD ts).length:Int))) false]) (al z al0)) (r:=[(y::l).length=(vasD f).length]) (al US al0))
 .rw[readTs_len l ts a];exact runT func144 [(15,bA true)] [] (ob:=[jJ (!decide (((ndsD l).length:Int)=((tysD ts).length:Int))) true]) (al (eT (by rw[Hf,eY];simp;omega)) al0)
end
def readEs_length:∀(l:aE) (ts:aw) (ys:ao),readEs l ts=some ys->l.length=ys.length
 | [],ts,ys,h=>by simp only[readEs,qq]at h;subst h;rfl
 | .nd k n p s r::l,ts,ys,h=>by
  rw[readEs]at h;split at h
  .cases h
  .split at h
   .simp only[qT]at h;obtain⟨a,h,rfl⟩:=h;simp[readEs_length l ts a h]
   .cases h
def esS (t:Int) (b:Bool) (l:aE) (ts:aw) (xs:ao) (j:Nat):St:=[((0,2),.of (.one (.p 2 0))),((3,0),.of (iA t)),((3,1),.of (dZ ts)),((0,11),.of (CW l)),((0,12),lW (ndsD l).length),((0,13),.of (jA j))]++match b with
 | false=>[((0,6),.of nilA)]
 | true=>[((0,6),.of (.one (.g 3000036 7 j))),((3000037,0),.kv 29 7 (vasD xs))]
section
variable {N d:Nat}{t:Int}{l:aE}{ts:aw}
def abu(p:F7 N)(w:okNs l)(A:okTs ts)(q:∀U∈ts,j5 d U)(J:sizes l<=N)(I:sizes l<=900){b:Bool}{j:Nat}{xs ys:ao}{ex:Nat}{post:St}(hb:b\/xs=[])(u:xs.length=j){k n:Int}{s:bp}{r:aE}(h:l[j]?=some (.nd k n 28 s r))(B:readTs r ts=some ys)
 (hn:vO prog f145.ntmps ⟨gF f145,esS t true l ts (xs++[fM 11 0 ⟨#[]⟩ ys]) (j+1),ex,post⟩):vO prog f145.ntmps ⟨gF f145,esS t b l ts xs j,ex,post⟩:=by
 have⟨f,c⟩:=qS.1 h;have z:=okNs_at.1 w _ (c ▸ yv f);have o:=gH l j f;have H:=jF l (j+1);rw[c,Tr.size]at o;have g:=Hm p (l:=r) (ts:=ts) (n:=2) (d:=d) (.inl rfl) z.2 A q od od;rw[B]at g;have x:=cB l;have C:=is_lt (a:=Int.ofNat j) (b:=((ndsD l).length:Int)) OR;have D:=WV h;have E:mD (lW (IntKind.i64.wrap (Int.ofNat j+1))) (jA (j+1)):=yY (zF oe ot ot);have F:rowsLe ((vasD xs).take j++[[.v (.i 11),.v (.i 0),.v (.i 0),.v (.string ⟨#[]⟩),.s 7 (vasD ys),.s 0 [],.s 0 []]]) (vasD (xs++[fM 11 0 ⟨#[]⟩ ys])):=by rw[LQ,ub US];refine vG (b:=vaD (fM 11 0 ⟨#[]⟩ ys)) ?_ _;exact⟨.inl rfl,.inl rfl,.inl rfl,.inl rfl,.inl rfl,.inr ⟨rfl,2,ov,rfl⟩,.inr ⟨rfl,5,ov,rfl⟩,trivial⟩
 have G:=iL (y:=112) (l:=j) (es:=vasD xs) (rows:=[[.v (.i 11),.v (.i 0),.v (.i 0),.v (.string ⟨#[]⟩),.s 7 (vasD ys),.s 0 [],.s 0 []]]) US oe rfl ot ov;have m:=al C (al D (al F (al G (al E al0))));rcases b with _|_
 .obtain rfl:=hb.resolve_left oe;obtain rfl:j=0:=u.symm;exact LG [(14,bA true),(15,.one (.e (ndD (.nd k n 28 s r)) 0)),(2000036,qi ([]++[fM 11 0 ⟨#[]⟩ ys])),(37,jA 1)] [⟨_,g⟩] hn m
 .exact LG [(14,bA true),(15,.one (.e (ndD (.nd k n 28 s r)) 0)),(2000036,qi (xs++[fM 11 0 ⟨#[]⟩ ys])),(37,jA (j+1))] [⟨_,g⟩] hn m
def abv(v:F7 N)(x:okNs l)(z:okTs ts)(w:∀U∈ts,j5 d U)(D:sizes l<=N)(C:sizes l<=900){b:Bool}{j:Nat}{xs:ao}(hb:b\/j=0){k n p:Int}{s:bp}{r:aE}(o:l[j]?=some (.nd k n p s r))(A:readTs r ts=none\/p≠28):vO prog f145.ntmps ⟨gF f145,esS t b l ts xs j,1,ecP⟩:=by
 have⟨g,f⟩:=qS.1 o;have y:=okNs_at.1 x _ (f ▸ yv g);have u:=gH l j g;have B:=jF l (j+1);rw[f,Tr.size]at u;have c:=Hm v (l:=r) (ts:=ts) (n:=2) (d:=d) (.inl rfl) y.2 z w od od;have i:=is_lt (a:=Int.ofNat j) (b:=((ndsD l).length:Int)) OR;have m:=WV o
 cases h:readTs r ts with
 | none =>
  rw[h]at c;rcases b with _|_
  .obtain rfl:=hb.resolve_left oe;exact xQ (e:=0) [(14,bA true),(15,.one (.e (ndD (.nd k n p s r)) 0))] [⟨_,c⟩] (al i (al m al0))
  .exact xQ (e:=0) [(14,bA true),(15,.one (.e (ndD (.nd k n p s r)) 0))] [⟨_,c⟩] (al i (al m al0))
 | some E =>
  rw[h]at c;have q:=al i (al m (al (show jJ (!decide (p=28)) true from eT (by simpa using A.resolve_left (by simp[h]))) al0));rcases b with _|_
  .obtain rfl:=hb.resolve_left oe;exact xQ (e:=0) [(14,bA true),(15,.one (.e (ndD (.nd k n p s r)) 0)),(30,bA true)] [⟨_,c⟩] q
  .exact xQ (e:=0) [(14,bA true),(15,.one (.e (ndD (.nd k n p s r)) 0)),(30,bA true)] [⟨_,c⟩] q
def PK(f:F7 N)(o:okNs l)(q:okTs ts)(m:∀U∈ts,j5 d U=true)(u:sizes l<=N)(c:sizes l<=900):∀(i j:Nat) (b:Bool) (xs:List Va),j+i=l.length->xs.length=j->(b=true\/j=0/\i≠0) ->
 (readEs (l.drop j) ts=none->vO prog f145.ntmps ⟨gF f145,esS t b l ts xs j,1,ecP⟩)/\∀ys,readEs (l.drop j) ts=some ys->vO prog f145.ntmps ⟨gF f145,esS t b l ts xs j,2,ecQ 3000036 l.length (xs++ys)⟩
 | 0,j,b,xs,A,w,hb=>by
  rw[List.drop_of_length_le od];refine⟨λh=>by simp[readEs]at h,λys h=>?_⟩;simp only[readEs,qq]at h;subst h;rw[qb0];obtain rfl:j=l.length:=od
  obtain rfl:b=true:=hb.resolve_right oe;exact xQ (e:=1) [(14,bA false)] [] (ob:=[mD (aQ (decide (Int.ofNat l.length<((ndsD l).length:Int)))) (bA false)]) (al (wH (by rw[Hf];simp)) al0)
 | i+1,j,b,xs,A,w,hb=>by
  have z:j<l.length:=od
  rw[kB z];cases e:l[j]with|nd k n p s r =>
  have v:l[j]?=some (.nd k n p s r):=by rw[qt z,e]
  have a:b=true\/j=0:=hb.imp id And.left;have g:b=true\/xs=[]:=a.imp id λh=>jx od;rw[readEs]
  cases y:readTs r ts with
  | none=>exact⟨λ_=>abv f o q m u c a v (.inl y),λys h=>by cases h⟩
  | some E =>
   by_cases x:p=28
   .subst x;obtain⟨B,C⟩:=PK f o q m u c i (j+1) true (xs++[fM 11 0 ⟨#[]⟩ E]) od (by simp[w]) (.inl rfl);refine⟨λh=>abu f o q m u c g w v y (B (by simpa using h)),λys h=>?_⟩;simp only[if_true,qT]at h;obtain⟨D,h,rfl⟩:=h;have:=abu f o q m u c g w v y (C D h);rwa [qa6,jb1]at this
   .exact⟨λ_=>abv f o q m u c a v (.inr x),λys h=>by simp[x]at h⟩
def aaa(i:F7 N){T:Ty}(m:okNs l)(j:okT T)(k:∀U∈T.args,j5 d U)(n:sizes l<=N)(g:sizes l<=900):Hd ⟨145,[tyA T,CW l],eachA (readEs l T.args)⟩:=by
 have⟨t,ts⟩:=T;rcases l with _|⟨y,l⟩
 .have h:vO prog f145.ntmps ⟨gF f145,[((0,6),.of nilA),((0,12),lW 0),((0,13),.of (jA 0))],2,[((0,6),.of nilA)]⟩:=xQ (e:=1) [] [] al0;have : Hd ⟨145,[tyA (.nd t ts),CW []],.rz [nilA,bA true]⟩:=Ce func145 [] [_] (by intro x a;rw[qu]at a;subst a;exact h) [] (wI (S:=[((0,6),.of nilA),((0,12),lW 0),((0,13),.of (jA 0))]) (q:=gF f145=gF f145) rfl (ps:=[]) al0);exact this.ac7
 .have⟨o,p⟩:=PK (t:=t) i m j.2 k n g (y::l).length 0 false [] oe rfl (.inr ⟨rfl,oe⟩);have f:=wI (S:=esS t false (y::l) ts [] 0) (q:=gF f145=gF f145) rfl (ps:=[]) al0
  cases b:readEs (y::l) ts with
  | none =>
   have : Hd ⟨145,[tyA (.nd t ts),CW (y::l)],eachA none⟩:=Ce func145 [] [_] (by intro x a;rw[qu]at a;subst a;exact o b) [] f;rw[show (Ty.nd t ts).args=ts from rfl,b];exact this
  | some c =>
   have s:(y::l).length=c.length:=readEs_length _ _ _ b;have : Hd ⟨145,[tyA (.nd t ts),CW (y::l)],eachA (some c)⟩:=Ce func145 [] [_] (by intro x a;rw[qu]at a;subst a;exact p c b) [] (jX f (r:=[(y::l).length=(vasD c).length]) (al US al0));rw[show (Ty.nd t ts).args=ts from rfl,b];exact this
end
def bI.yX{ok:br}{w:cg}{t:Tr}{u:cm}(h:bI ok w t u):∃a c V,u=Go.Proofs.YtnamdihclpbdfabGreat.af t.k0 t.n0 t.p0 t.s0 a t.args0.length c/\(bD t.k0/\bD t.n0/\bD t.p0/\t.s0.size<=maxLen)/\cK ok w t.args0 a V:=by
 cases h with
 | mk V d f i g j b e=>exact⟨_,_,V,rfl,⟨i,g,j,f⟩,d,b,e⟩
end
def Pe.Holds.ZJ{f:FuncId}{args:List A1}{k n:Int}{s:bp}{i:Nat}{al:ao}(h:Hd ⟨f,args,.rz [.agg [.d (.v (.i k)),.d (.v (.i n)),.d (.v (.i 0)),.d (.v (.string s)),.d (.s i (vasD al)),.d (.s 0 []),.d (.s 0 [])],bA true]⟩)(c:i=7\/al=[]):Hd ⟨f,args,.rz [pF (fM k n s al),bA true]⟩:=h.conv (λ_ _ _ h=>h) λok w v h=>by
 have⟨z,e,j⟩:=h
 match z,j with
 | [x,y],⟨⟨u,b,q⟩,g,_⟩ =>
  subst b
  match u,q with
  | [A,B,C,D,E,F,G],⟨l,m,o,p,a,r,t,_⟩ =>
   refine⟨_,e,⟨_,rfl,l,m,o,p,?_,gG r,gG t,trivial⟩,g,trivial⟩;rcases c with rfl|rfl
   .exact a
   .exact gG a
def Od{N:Nat}(F:F7 N):F7 (N+1):=by
 intro R T d S Q G D J;have⟨k,n,p,s,l⟩:=R;have⟨r,g⟩:=jU J;have P:Tr.size (.nd k n p s l)=sizes l+1:=by rw[Tr.size]
 have M:=cB l;have y:=O3 J p;have⟨t,c⟩:=T;simp only[Ty.t,Ty.args]at r g;have j:∀{a b:Int},a≠b->jJ (decide (a=b)) false:=λh=>eT (xb h);have L:t=3\/t=4\/t=5\/t=7->Hd ⟨124,[tyA (.nd t c),ndA (.nd k n p s l)],.rz [.agg [.d (.v (.i t)),.d (.v (.i n)),.d (.v (.i 0)),.d (.v (.string ⟨#[]⟩)),.d (.s 0 []),.d (.s 0 []),.d (.s 0 [])],bA (decide (k=0))]⟩:=by rintro (rfl|rfl|rfl|rfl)<;>exact aF func124 []
 by_cases o:t=3\/t=4\/t=5\/t=7
 .have H:=L o;rw[readT,if_pos (by simpa[Ty.t]using o)]
  by_cases hk:k=0
  .rw[zj hk]at H;rw[if_pos hk];exact⟨0,s,H.ZJ (al:=[]) (.inr rfl)⟩
  .rw[xb hk]at H;rw[if_neg hk];exact⟨n,_,H⟩
 by_cases E:t=6
 .subst E;have H:Hd ⟨124,[tyA (.nd 6 c),ndA (.nd k n p s l)],.rz [.agg [.d (.v (.i 6)),.d (.v (.i 0)),.d (.v (.i 0)),.d (.v (.string s)),.d (.s 0 []),.d (.s 0 []),.d (.s 0 [])],bA (decide (k=1))]⟩:=aF func124 [];rw[readT,if_neg Vc,if_pos (show (Ty.nd 6 c).t=6 from rfl)]
  by_cases hk:k=1
  .rw[zj hk]at H;rw[if_pos hk];exact⟨0,s,H.ZJ (al:=[]) (.inr rfl)⟩
  .rw[xb hk]at H;rw[if_neg hk];exact⟨0,_,H⟩
 by_cases w:t=10
 .subst w;rw[readT,if_neg Vc,if_neg Vc,if_pos (show (Ty.nd 10 c).t=10 from rfl)]
  by_cases hk:k=3
  .subst hk;rw[if_pos rfl];obtain⟨A,rfl⟩:=ja5.1 (show c.length=1 by simp[bT]at r;omega);have e:(ndsD l).length=l.length:=by simp[ndsD_map]
   have I:=Jr (T:=A) (n:=(ndsD l).length) D.2.1 od;have f:=Hm F (l:=l) (ts:=List.replicate (ndsD l).length A) (n:=2) (d:=d+1) (.inl rfl) G.2 (okTs_at.2 λU z=>by rw[qe7 z];exact D.2.1) (λU z=>by rw[qe7 z];exact g A oe) od od;rw[show List.replicate l.length (bB (Ty.nd 10 [A]).args 0)=List.replicate (ndsD l).length A by rw[e];rfl]
   cases u:readTs l (List.replicate (ndsD l).length A)with
   | none =>
    rw[u]at f;exact⟨0,⟨#[]⟩,aF func124 [⟨_,I⟩,⟨_,f⟩]⟩
   | some C =>
    rw[u]at f;exact⟨0,⟨#[]⟩,Holds.ZJ (i:=7) (al:=C) (aF func124 [⟨_,I⟩,⟨_,f⟩]) (.inl rfl)⟩
  .rw[if_neg hk];exact⟨0,⟨#[]⟩,runT func124 [(55,bA false)] [] (al (j hk) al0)⟩
 by_cases x:t=13
 .subst x;rw[readT,if_neg Vc,if_neg Vc,if_neg Vc,if_pos (show (Ty.nd 13 c).t=13 from rfl)]
  by_cases hk:k=3
  .subst hk;rw[if_pos rfl];have f:=aaa F (l:=l) G.2 D g od od
   cases u:readEs l (Ty.nd 13 c).args with
   | none =>
    rw[u]at f;exact⟨0,⟨#[]⟩,aF func124 [⟨_,f⟩]⟩
   | some C =>
    rw[u]at f;exact⟨0,⟨#[]⟩,Holds.ZJ (i:=7) (al:=C) (aF func124 [⟨_,f⟩]) (.inl rfl)⟩
  .rw[if_neg hk];exact⟨0,⟨#[]⟩,runT func124 [(73,bA false)] [] (al (j hk) al0)⟩
 rw[readT,if_neg (by exact o),if_neg (by exact E),if_neg (by exact w),if_neg (by exact x)];simp only[not_or]at o;have B:=al (j o.1) (al (j o.2.1) (al (j o.2.2.1) (al (j o.2.2.2) (al (j E) (al (j w) (al (j x) al0))))))
 cases hb:dL (.nd t c) p with
 | none =>
  rw[hb]at y;exact⟨0,⟨#[]⟩,runT func124 [(33,fA),(34,fA),(35,fA),(36,fA),(44,fA),(52,fA),(70,fA)] [⟨_,y⟩] B⟩
 | some q =>
  have⟨m,ts⟩:=q;rw[hb]at y;have K:=M7 hb;have f:=λ{n:Nat} O=>Hm F (l:=l) (ts:=ts) (n:=n) (d:=d+1) O G.2 (okTs_at.2 λU z=>okTs_at.1 D.2 U (K U z)) (λU z=>g U (K U z)) od od;dsimp only
  cases u:readTs l ts with
  | none =>
   rw[u]at f;refine⟨m,⟨#[]⟩,?_⟩
   cases ts with
   | nil=>exact runT func124 [(33,fA),(34,fA),(35,fA),(36,fA),(44,fA),(52,fA),(70,fA)] [⟨_,y⟩,⟨_,f (n:=0) (.inr rfl)⟩] B
   | cons A ts=>exact runT func124 [(33,fA),(34,fA),(35,fA),(36,fA),(44,fA),(52,fA),(70,fA)] [⟨_,y⟩,⟨_,f (n:=2) (.inl rfl)⟩] B
  | some C =>
   rw[u]at f;refine⟨0,⟨#[]⟩,Holds.ZJ (i:=7) (al:=C) ?_ (.inl rfl)⟩
   cases ts with
   | nil=>exact runT func124 [(33,fA),(34,fA),(35,fA),(36,fA),(44,fA),(52,fA),(70,fA)] [⟨_,y⟩,⟨_,f (n:=0) (.inr rfl)⟩] B
   | cons A ts=>exact runT func124 [(33,fA),(34,fA),(35,fA),(36,fA),(44,fA),(52,fA),(70,fA)] [⟨_,y⟩,⟨_,f (n:=2) (.inl rfl)⟩] B
def read_all:∀N,F7 N
 | 0=>λt _ _ h=>by have:=size_pos t;omega
 | N+1=>Od (read_all N)
