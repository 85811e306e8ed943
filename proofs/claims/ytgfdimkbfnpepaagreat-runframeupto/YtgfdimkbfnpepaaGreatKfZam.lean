import Derived.Test.YtgfdimkbfnpepaaGreatKfZal
namespace Go.Proofs.YtgfdimkbfnpepaaGreat
set_option linter.all false
open Go.Proofs.Tryz
set_option maxRecDepth 100000
set_option maxHeartbeats 4000000
def zm (f:Nat->bw->Except Int (Tr×Nat×bw)):Nat->Nat->bw->Except Int (aE×Nat×bw)
 | 0,n,l=>.ok ([],n,l)
 | k+1,n,l=>match f n l with
  | .error e=>.error e
  | .ok (t,n',l')=>match zm f k n' l' with
   | .error e=>.error e
   | .ok (ts,n'',l'')=>.ok (t::ts,n'',l'')
def pQ (f:Nat->bw->Except Int (Tr×Nat×bw)) (n:Nat) (l:bw):Except Int (aE×Nat×bw) :=
 match kR l with
 | none=>.error 1
 | some (c,l')=>zm f c n l'
def pNode:Nat->Nat->bw->Except Int (Tr×Nat×bw)
 | 0,_,_=>.error 4
 | d+1,n,l=>if n=300 then .error 4 else match l with
  | []=>.error 1
  | b::l =>
   if b.toNat=0 then match pNum l with
    | none=>.error 1
    | some (m,l')=>.ok (.nd 0 m 0 (bs []) [],n+1,l')
   else if b.toNat=1 then match yf l with
    | none=>.error 1
    | some (s,l')=>.ok (.nd 1 0 0 (bs s) [],n+1,l')
   else if b.toNat=2 then match l with
    | []=>.error 1
    | p::l=>if Lf.gD p.toNat=false then .error 1 else match pQ (λn l=>pNode d n l) (n+1) l with
     | .error e=>.error e
     | .ok (ts,n',l')=>.ok (.nd 2 0 p.toNat (bs []) ts,n',l')
   else if b.toNat=3 then match pQ (λn l=>pNode d n l) (n+1) l with
    | .error e=>.error e
    | .ok (ts,n',l')=>.ok (.nd 3 0 0 (bs []) ts,n',l')
   else .error 1
def TK(l:bw):(bs l).data.toList=l:=by simp[bs]
def sF{l d:bw}{c:Nat}(h:kR l=some (c,d)):c<=1152921504606846976/\l=pE c++d:=by
 unfold kR at h
 cases a:pNum l with
 | none=>rw[a]at h;simp at h
 | some r =>
  have⟨x,g⟩:=r;have⟨f,e⟩:=oQ a;rw[a]at h;simp only at h
  by_cases b:x<0
  .rw[if_pos b]at h;simp at h
  .rw[if_neg b]at h;simp only[qk,ke]at h;obtain⟨rfl,rfl⟩:=h;rw[Int.toNat_of_nonneg od];exact⟨od,e⟩
def zS{l s c:bw}(h:yf l=some (s,c)):s.length<=200/\l=pE s.length++s++c:=by
 unfold yf at h
 cases a:kR l with
 | none=>rw[a]at h;simp at h
 | some r =>
  have⟨m,d⟩:=r;have⟨g,e⟩:=sF a;rw[a]at h;simp only at h
  by_cases b:200<m\/d.length<m
  .rw[if_pos b]at h;simp at h
  rw[if_neg b]at h;simp only[qk,ke]at h;obtain⟨rfl,rfl⟩:=h;have f:(d.take m).length=m:=UP
  rw[f];exact⟨od,by rw[yy,qd3];exact e⟩
def Sound (d:Nat) (n:Nat) (l:bw) (t:Tr) (n':Nat) (l':bw):Prop:=l=encTr t++l'/\n'=n+t.size/\n'<=300/\bC (25 - d) t=0
def J7{d:Nat}{f:Nat->bw->Except Int (Tr×Nat×bw)}(z:∀n l t a b,n<=300->f n l =.ok (t,a,b)->Sound d n l t a b) :
 ∀(k n:Nat) (l:bw) (ts:aE) (a:Nat) (b:bw),n<=300->zm f k n l =.ok (ts,a,b)->l=encTrs ts++b/\a=n+sizes ts/\a<=300/\bG (25 - d) ts=0/\ts.length=k:=by
 intro k
 induction k with
 | zero =>
  intro n l ts a b i h;simp only[zm,jg7,ke]at h;obtain⟨rfl,rfl,rfl⟩:=h;exact⟨by simp[encTrs],by simp[sizes],i,by simp[bG],rfl⟩
 | succ k A =>
  intro n l ts a b i h;rw[zm]at h
  cases c:f n l with
  | error e=>rw[c]at h;simp at h
  | ok r =>
   have⟨t,n1,j⟩:=r;rw[c]at h;simp only at h
   cases g:zm f k n1 j with
   | error e=>rw[g]at h;simp at h
   | ok r =>
    have⟨m,C,B⟩:=r;rw[g]at h;simp only[jg7,ke]at h;obtain⟨rfl,rfl,rfl⟩:=h;have⟨o,p,q,s⟩:=z n l t n1 j i c;have⟨u,v,w,x,y⟩:=A n1 j m C B q g;refine⟨by rw[o,u,encTrs];simp,by rw[v,p,sizes];omega,w,?_,by simp[y]⟩;rw[bG,s];simpa using x
def vM(k n p:Int)(s:bo)(l:Nat)(a:Lf.rP k)(b:¬(k=2/\Lf.gD p=false))(c:Lf.qM k n p s l=false)(d:-1152921504606846976<=n/\n<=1152921504606846976)(e:s.size<=200):Lf.fD k n p s l=0:=by unfold Lf.fD;rw[if_neg (by simp[a]),if_neg b,if_neg (by simp[c]),oa,oa]
def pR{d:Nat}{f:Nat->bw->Except Int (Tr×Nat×bw)}(p:∀n l t a b,n<=300->f n l =.ok (t,a,b)->Sound d n l t a b){n:Nat}{l:bw}{ts:aE}{a:Nat}{b:bw}(hn:n<=300)
 (h:pQ f n l =.ok (ts,a,b)):l=pE ts.length++encTrs ts++b/\a=n+sizes ts/\a<=300/\bG (25 - d) ts=0:=by
 unfold pQ at h
 cases e:kR l with
 | none=>rw[e]at h;simp at h
 | some r =>
  have⟨c,q⟩:=r;have⟨s,o⟩:=sF e;rw[e]at h;have⟨g,i,j,k,m⟩:=J7 p c n q ts a b hn h;subst m;exact⟨by rw[o,g];simp,i,j,k⟩
def pU(d:Nat):d<=24->∀(n:Nat) (l:bw) (t:Tr) (u:Nat) (q:bw),n<=300->pNode d n l =.ok (t,u,q)->Sound d n l t u q:=by
 induction d with
 | zero=>intro _ n l t u q E h;simp[pNode]at h
 | succ d o =>
  intro I n l t u q E h;have o:=o od;rw[pNode.eq_def]at h;simp only at h
  by_cases g:n=300
  .rw[if_pos g]at h;simp at h
  rw[if_neg g]at h;have hF:∀(k m p:Int) (s:bo) (f:aE),Lf.fD k m p s f.length=0->bG (25 - d) f=0->bC (25 - (d+1)) (.nd k m p s f)=0:=by intro k m p s f G F;rw[bC,oa,if_neg (by simpa using G),show 25 - (d+1)+1=25 - d from by omega];exact F
  cases l with
  | nil=>simp at h
  | cons b l =>
   simp only at h
   by_cases x:b.toNat=0
   .rw[if_pos x]at h
    cases c:pNum l with
    | none=>rw[c]at h;simp at h
    | some r =>
     have⟨m,C⟩:=r;have⟨i,j⟩:=oQ c;rw[c]at h;simp only[jg7,ke]at h;obtain⟨rfl,rfl,rfl⟩:=h;refine⟨?_,by simp[Tr.size,sizes],od,?_⟩
     .rw[encTr,if_pos rfl,j,yE x];rfl
     .exact hF 0 m 0 (bs []) [] (vM _ _ _ _ _ ov ov (by rfl) i KK) (by simp[bG])
   rw[if_neg x]at h
   by_cases y:b.toNat=1
   .rw[if_pos y]at h
    cases c:yf l with
    | none=>rw[c]at h;simp at h
    | some r =>
     have⟨s,C⟩:=r;have⟨i,j⟩:=zS c;rw[c]at h;simp only[jg7,ke]at h;obtain⟨rfl,rfl,rfl⟩:=h;refine⟨?_,by simp[Tr.size,sizes],od,?_⟩
     .rw[encTr,if_neg ov,if_pos rfl,j,yE y,eQ,TK];rfl
     .exact hF 1 0 0 (bs s) [] (vM _ _ _ _ _ ov ov (by rfl) od (by rw[eQ];exact i)) (by simp[bG])
   rw[if_neg y]at h
   by_cases z:b.toNat=2
   .rw[if_pos z]at h
    cases l with
    | nil=>simp at h
    | cons p l =>
     simp only at h
     by_cases B:Lf.gD p.toNat=false
     .rw[if_pos B]at h;simp at h
     rw[if_neg B]at h
     cases c:pQ (λn l=>pNode d n l) (n+1) l with
     | error e=>rw[c]at h;simp at h
     | ok r =>
      have⟨D,H,C⟩:=r;have⟨i,j,v,w⟩:=pR o od c;rw[c]at h;simp only[jg7,ke]at h;obtain⟨rfl,rfl,rfl⟩:=h;refine⟨?_,by rw[j,Tr.size];omega,v,?_⟩
      .rw[encTr,if_neg ov,if_neg ov,if_pos rfl,i,yE z];simp only[qb4,Int.toNat_natCast];rw[<-yE (a:=p) rfl];rfl
      .exact hF 2 0 p.toNat (bs []) D (vM _ _ _ _ _ ov (by simpa using B) (by rfl) od KK) w
   rw[if_neg z]at h
   by_cases A:b.toNat=3
   .rw[if_pos A]at h
    cases c:pQ (λn l=>pNode d n l) (n+1) l with
    | error e=>rw[c]at h;simp at h
    | ok r =>
     have⟨D,H,C⟩:=r;have⟨i,j,v,w⟩:=pR o od c;rw[c]at h;simp only[jg7,ke]at h;obtain⟨rfl,rfl,rfl⟩:=h;refine⟨?_,by rw[j,Tr.size];omega,v,?_⟩
     .rw[encTr,if_neg ov,if_neg ov,if_neg ov,i,yE A];rfl
     .exact hF 3 0 0 (bs []) D (vM _ _ _ _ _ ov ov (by rfl) od KK) w
   .rw[if_neg A]at h;simp at h
def mE (l:bw):Except Int Tr:=match pNode 24 0 l with
 | .ok (t,_,l')=>if l'=[]then .ok t else .error 1
 | .error e=>.error e
def jw (T:Ty):bw->Option Va
 | []=>none
 | b::r=>if b=5/\r.length<=199 then (match mE r with
  | .error _=>none
  | .ok t=>match jf T t with
   | none=>none
   | some x=>if eB T then some x else none)else none
def TR (T:Ty) (x:Va):Bool:=pY T x&&eB T
def M8{T:Ty}{x:Va}(h:TR T x):bn T/\hasV x T/\eB T:=by unfold TR pY at h;simp only[qu]at h;exact⟨h.1.1,h.1.2,h.2⟩
def P9{T:Ty}{x:Va}(h:TR T x):(dR x).size<=301:=by have⟨a,b,c⟩:=M8 h;exact (OD b c (dE a).1).2.2
mutual
def vsum:Va->Nat
 | .mk _ _ _ s args _ _=>s.size / 8+1+vsums args
def vsums:an->Nat
 | []=>0
 | x::xs=>vsum x+vsums xs
end
def VD(x:Va):vsum x=x.s.size / 8+1+vsums x.args:=by cases x;rw[vsum];rfl
def pushS:an->List an
 | []=>[]
 | x::xs=>(if x.args.length=0 then []else [x.args])++pushS xs
def CY (M:List an):Nat:=(M.map vsums).sum
def nD (M:List an):Nat:=(M.map λl=>vsizes l+1).sum
def zY(a b:List an):CY (a++b)=CY a+CY b:=by simp[CY]
def gQ(a b:List an):nD (a++b)=nD a+nD b:=by simp[nD]
def qH(l:an):nD [l]=vsizes l+1:=by simp[nD]
def ve(M:List an):M.length<=nD M:=by
 induction M with
 | nil=>simp
 | cons r l a=>simp only[nD,qb6,ka3,jn]at a|-;omega
def wM(l:an):nD (pushS l)<=vsizes l:=by
 induction l with
 | nil=>simp[pushS,nD,vsizes]
 | cons x l a =>
  have h:=eP x;rw[pushS,gQ,vsizes];split
  .simp[nD]at a|-;omega
  .rw[qH];omega
open Pe Go.RowKit
def tdT (b k m:Nat) (L:an):Hints:=[(14+b,bA true),(17+b,jA m),(20+b,.one (.q k (m*1))),(21+b,qi L),(24+b,.one (.g k 1 m))]
def tdO (k m:Nat) (es:List bd) (L:an):List Prop:=[mD (aQ (decide ((0:Int)<Int.ofNat (m+1)))) (bA true),mD (lW (IntKind.i64.wrap (Int.ofNat (m+1) - 1))) (jA m),(if 1=1/\m<m+1 then some (AV.of (.one (.q k (m*1))))else none)=some (.of (.one (.q k (m*1)))),(qc es (m*1) 1).bind (mkA false)=some (.of (qi L)),(if 1=1/\m<=m+1 then some (AV.of (.one (.g k 1 m)))else none)=some (.of (.one (.g k 1 m)))]
def abb{k m:Nat}{es:List bd}{M:List an}{L:an}(c:M.length=m)(h:es.take (m+1)=bZ (M++[L]))(d:m<=50000000):(∀p∈tdO k m es L,p)/\es.take m=bZ M/\m<=es.length:=by obtain⟨a,b⟩:=aar (A:=bZ M) (r:=[.s 7 (vasD L)]) (m:=m) (n:=1) (by rw[nC,c]) (by simp[bZ]) rfl (by rw[h];simp[bZ]);exact⟨al (is_lt ot) (al (yY (by rw[qc1];simp;omega)) (al (if_pos ⟨rfl,od⟩) (al (by rw[a];rfl) (al (if_pos ⟨rfl,od⟩) al0)))),b⟩
def psO (l:Nat) (es:List bd) (M:List an) (L:an):List Prop:=[rowsLe (es.take l++[[.s 7 (vasD L)]]) (bZ (M++[L])),UU 24 l es [[.s 7 (vasD L)]]]
def aa8{l:Nat}{es:List bd}{M:List an}{L:an}(c:M.length=l)(h:es.take l=bZ M)(a:l<=es.length)(b:l<=50000000):∀p∈psO l es M L,p :=
 al (by rw[h,show bZ (M++[L])=bZ M++[[.s 7 (vasD L)]] by simp[bZ]];exact rows_refl _) (al (za a ot rfl oB ov) al0)
def szQ (n k l:Nat) (es:List bd):St:=[((0,3),.of (iA (wrap64 (n:Nat)))),((0,4),.of (.one (.g k 1 l))),((k+1,0),.rM 28 1 es)]
def szS (n k l:Nat) (es:List bd) (L:an) (j:Nat):St:=szQ n k l es++[((0,25),.of (qi L)),((0,26),lW (vasD L).length),((0,27),.of (jA j))]
abbrev szI (p:St) (q:St):Prop:=vO prog f192.ntmps ⟨oH f192 1,p,4,q⟩
abbrev szO (p:St) (q:St):Prop:=vO prog f192.ntmps ⟨oH f192 0,p,2,q⟩
section
variable {n k l j:Nat}{es:List bd}{L:an}{M:List an}
def aaU{x:Va}{q:St}(hk:k=3000011\/k=3000046)(f:L[j]?=some x)(K:L.length<=20000000)(v:∀p∈psO l es M x.args,p)
 (h:szI (if x.args.length=0 then szS (n+(x.s.size / 8+1)) k l es L (j+1)else szS (n+(x.s.size / 8+1)) 3000046 (l+1) (bZ (M++[x.args])) L (j+1)) q):szI (szS n k l es L j) q:=by
 have J:=(qv.1 f).1;have w:=is_lt (a:=Int.ofNat j) (b:=((vasD L).length:Int)) ON;have z:=PT f;have A:mD (lW (IntKind.i64.wrap (wrap64 (n:Nat)+IntKind.i64.wrap (1+IntKind.i64.wrap ((x.s.size:Int).tdiv 8))))) (iA (wrap64 ((n+(x.s.size / 8+1):Nat):Int))):=yY (by rw[qc1,qc1,qc1,Int.tdiv_eq_ediv_of_nonneg od];unfold wrap64;omega)
 have B:mD (lW (IntKind.i64.wrap (Int.ofNat j+1))) (jA (j+1)):=yY (zF ot oB oB);have⟨G,H,E,i,g,I,D⟩:=x;have F:=λ(t:Hints) {r:List Prop} (u:∀p∈r,p) o c=>LG ([(28,bA true),(29,.one (.e (vaD (.mk G H E i g I D)) 0)),(37,iA (wrap64 ((n+(i.size / 8+1):Nat):Int)))]++t++[(47,jA (j+1))]) [] h (al w (al z (al A (oJ u (al B al0))))) (pre:=szS n k l es L j) (h:=o) (hc:=c);rcases g with _|⟨y,m⟩
 .rcases hk with rfl|rfl<;>exact F [] al0 oA oA
 .have C:=is_lt (a:=0) (b:=((vasD (y::m)).length:Int)) (by rw[qY];simp);rcases hk with rfl|rfl<;>exact F [(41,bA true),(2000046,.one (.d (.s 1 (bZ (M++[y::m])))))] (al C v) oA oA
def aau(A:L.length<=20000000):∀(i j n k l:Nat) (es:List bd) (M:List an),j+i=L.length->(k=3000011\/k=3000046)->es.take l=bZ M->M.length=l->l<=es.length->l+i<=50000000 ->
 ∃m g f d,m+CY (pushS (L.drop j))=n+vsums (L.drop j)/\(g=3000011\/g=3000046)/\d.take f=bZ (M++pushS (L.drop j))/\(M++pushS (L.drop j)).length=f/\f<=d.length/\szI (szS n k l es L j) (szQ m g f d)
 | 0,j,n,k,l,es,M,J,p,t,u,v,I=>by have N:=wH (a:=Int.ofNat j) (b:=((vasD L).length:Int)) ON;rw[jb7 od];refine⟨n,k,l,es,rfl,p,by simpa[pushS]using t,by simpa[pushS]using u,v,?_⟩;have F:=λo c=>(xQ (e:=3) [(28,fA)] [] (al N al0) (h:=o) (hc:=c):szI (szS n k l es L j) (szQ n k l es));rcases p with rfl|rfl<;>exact F oA oA
 | i+1,j,n,k,l,es,M,J,p,t,u,v,I=>by
  have r:j<L.length:=od
  have K:=VD L[j];rw[qa0 r,pushS,vsums,zY];have w:=λh=>aaU (n:=n) (q:=h) p (qn r) A (aa8 (L:=L[j].args) u t v od);generalize L[j]=x at *
  by_cases B:x.args.length=0
  .rw[jt B,vsums]at K;have⟨m,g,f,d,C,E,y,z,G,H⟩:=aau A i (j+1) (n+(x.s.size / 8+1)) k l es M od p t u v od;rw[if_pos B]at w|-;exact⟨m,g,f,d,by simp[CY]at C|-;omega,E,y,z,G,w _ H⟩
  .have⟨m,g,f,d,C,E,y,z,G,H⟩:=aau A i (j+1) (n+(x.s.size / 8+1)) 3000046 (l+1) (bZ (M++[x.args])) (M++[x.args]) od (.inr rfl) (qb2 vp) oB vp od;rw[if_neg B]at w|-;rw[yy]at y z;exact⟨m,g,f,d,by simp[CY]at C|-;omega,E,y,z,G,w _ H⟩
def sz_out:∀(N n k l:Nat) (es:List bd) (M:List an),nD M<=N->N<=20000001->(k=3000011\/k=3000046)->es.take l=bZ M->M.length=l->szO (szQ n k l es) [((0,3),.of (iA (wrap64 ((n+CY M:Nat):Int))))]
 | N,n,k,l,es,M,y,u,d,t,f=>by
  rcases jh2 M with rfl|⟨a,L,rfl⟩
  .obtain rfl:l=0:=f.symm;have F:=λo c=>(xQ (e:=1) [] [] al0 (h:=o) (hc:=c):szO (szQ n k 0 es) [((0,3),.of (iA (wrap64 ((n+CY []:Nat):Int))))]);rcases d with rfl|rfl<;>exact F oA oA
  rw[jh3]at *;rw[gQ,qH]at y;have H:0<N:=od
  obtain rfl:l=a.length+1:=by simp at f;omega
  have I:=ve a;have z:=kS L;have B:=wM L;have⟨A,v,w⟩:=abb (k:=k) rfl t od;have⟨j,C,E,b,m,p,r,s,J,G⟩:=aau (L:=L) od L.length 0 n k a.length es a od d v rfl w od;rw[je4]at m r s;have g:=sz_out (N - 1) j C E b (a++pushS L) (by rw[gQ];omega) od p r s;rw[show j+CY (a++pushS L)=n+CY (a++[L]) by rw[zY,zY];simp[CY]at m|-;omega]at g;have F:=λo c=>aai (tdT 0 k a.length L) [_] (by intro x i;rw[jx]at i;subst i;exact G) [] g (oJ A (wI (S:=szS n k a.length es L 0) (q:=oH f192 1=oH f192 1) rfl (ps:=[]) al0)) (pre:=szQ n k (a.length+1) es) (h:=o) (hc:=c);rcases d with rfl|rfl<;>rcases p with rfl|rfl<;>exact F oA oA
termination_by N=>N
decreasing_by all_goals omega
end
def abd{x:Va}(j:x.size<=20000000):Hd ⟨192,[pF x],.of (iA (wrap64 (vsum x:Nat)))⟩:=by have a:=sz_out (nD [[x]]) 0 3000011 1 (bZ [[x]]) [[x]] (qS _) (by rw[qH];simp[vsizes];omega) (.inl rfl) rfl rfl;rw[show 0+CY [[x]]=vsum x by simp[CY,vsums]]at a;have⟨e,f,d,i,g,h,c⟩:=x;exact Ce func192 [(11,nilA)] [_] (by intro y b;rw[jx]at b;subst b;exact a) [] (wI (S:=szQ 0 3000011 1 (bZ [[.mk e f d i g h c]])) (q:=oH f192 0=oH f192 0) rfl (ps:=[]) al0)
def RL{w:bx}{x:Va}{v:cg}(a:aA (λ_=>True) w x v)(f:x.size<=20000000)(W:bx)(b:cm w W none) :
 Calls prog 192 #[v] W λe w'=>e =.returned (.i (wrap64 (vsum x:Nat)))/\cm W w' none:=by
 refine ((abd f).runN rfl (λ_=>True) W [v] ⟨FJ (a.same (ni b)),trivial⟩).mono ?_;rintro e w' ⟨c,u,rfl,d⟩;exact⟨by rw[bW d],c⟩
open Go.ChangeShapes Go.WideShapes Go.ChangeAt Go.RowKit
def argsN:Tr->aE
 | .nd _ _ _ _ l=>l
def kN:Tr->Int
 | .nd k _ _ _ _=>k
def nN:Tr->Int
 | .nd _ n _ _ _=>n
def pN:Tr->Int
 | .nd _ _ p _ _=>p
def sN:Tr->bo
 | .nd _ _ _ s _=>s
def QW(t:Tr):t.size=sizes (argsN t)+1:=by cases t;simp[Tr.size,argsN]
mutual
def Ot (c:Tr->Tr->Int):Tr->Tr->Int
 | .nd k n p s args,y=>if c (.nd k n p s args) y≠0 then c (.nd k n p s args) y else jk c args (argsN y)
def jk (c:Tr->Tr->Int):aE->aE->Int
 | [],[]=>0
 | [],_::_=>-1
 | _::_,[]=>1
 | x::xs,y::ys=>if Ot c x y≠0 then Ot c x y else jk c xs ys
end
def L8(c:Tr->Tr->Int)(x y:Tr):Ot c x y=if c x y≠0 then c x y else jk c (argsN x) (argsN y):=by
 cases x;rw[Ot];rfl
def RS (c:Tr->Tr->Int):List (aE×aE)->Int
 | []=>0
 | r::R=>if jk c r.1 r.2≠0 then jk c r.1 r.2 else RS c R
def Cq (c:Tr->Tr->Int) (rows:List (aE×aE)):Int:=RS c rows.reverse
def mo(c:Tr->Tr->Int)(rows:List (aE×aE))(r:aE×aE):Cq c (rows++[r])=if jk c r.1 r.2≠0 then jk c r.1 r.2 else Cq c rows:=by simp[Cq,RS]
def RV(c:Tr->Tr->Int)(r:aE×aE):Cq c [r]=jk c r.1 r.2:=by
 have:=mo c [] r;rw[qd0]at this;rw[this]
 by_cases h:jk c r.1 r.2=0
 .rw[if_neg (by simpa using h),h];rfl
 .rw[if_pos h]
def RX(c:Tr->Tr->Int)(rows:List (aE×aE)):Cq c (rows++[([],[])])=Cq c rows:=by rw[mo];simp[jk]
def RU(c:Tr->Tr->Int)(rows:List (aE×aE))(x y:aE)(h:x=[]\/y=[])(f:¬(x=[]/\y=[])):Cq c (rows++[(x,y)])=gP x.length y.length:=by
 rw[mo]
 cases x with
 | nil=>cases y with
  | nil=>simp at f
  | cons b y =>
   have d:jk c [] (b::y) = -1:=by rw[jk]
   have e:gP (([]:aE).length:Nat) ((b::y).length:Nat) = -1:=by rw[gP,if_pos ot]
   rw[e];simp[d]
 | cons a x=>cases y with
  | nil =>
   have d:jk c (a::x) []=1:=by rw[jk]
   have e:gP ((a::x).length:Nat) (([]:aE).length:Nat)=1:=by rw[gP,if_neg oB,if_pos ot]
   rw[e];simp[d]
  | cons b y=>simp at h
def RY(c:Tr->Tr->Int)(rows:List (aE×aE))(x y:Tr)(xs ys:aE)(h:c x y≠0):Cq c (rows++[(x::xs,y::ys)])=c x y:=by
 have a:Ot c x y=c x y:=by rw[L8,if_pos h]
 have b:jk c (x::xs) (y::ys)=c x y:=by rw[jk,a,if_pos h]
 rw[mo];simp only[b];rw[if_pos h]
def Oy(c:Tr->Tr->Int)(rows:List (aE×aE))(x y:Tr)(xs ys:aE)(h:c x y=0):Cq c (rows++[(x::xs,y::ys)])=Cq c (rows++[(xs,ys)]++[(argsN x,argsN y)]):=by
 have b:Ot c x y=jk c (argsN x) (argsN y):=by rw[L8,if_neg (by simpa using h)]
 rw[mo,mo,mo];simp only;rw[jk,b]
 by_cases a:jk c (argsN x) (argsN y)=0
 .simp[a]
 .rw[if_pos a,if_pos a];simp[a]
def uy (rows:List (aE×aE)):Nat:=(rows.map λr=>2*sizes r.1+1).sum
def iP(a b:List (aE×aE)):uy (a++b)=uy a+uy b:=by simp[uy]
def jV(r:aE×aE):uy [r]=2*sizes r.1+1:=by simp[uy]
def NG(rows:List (aE×aE)):rows.length<=uy rows:=by
 induction rows with
 | nil=>simp
 | cons r l a=>simp only[uy,qb6,ka3,jn]at a|-;omega
def vG{w:bx}{x:Tr}{xs:aE}{b o:Nat}{V:bt}(h:cK (λ_=>True) w (x::xs) (some ⟨b,o,none⟩) V):cK (λ_=>True) w xs (some ⟨b,o+5,none⟩) (λi=>V (i+1)):=by
 refine⟨by have:=h.1;simp at this;omega,λi a=>?_,λi a=>?_⟩
 .have⟨t,v,l,u,k,n,p,s,m,al,q,r,c,d,f,g,j⟩:=h.2.1 (i+1) (by simpa using a);simp only[qk,qc4,and_true]at l;obtain⟨rfl,rfl⟩:=l;have e:o+(i+1)*5=o+5+i*5:=by omega
  rw[e]at c d f g j;exact⟨b,o+5,rfl,trivial,k,n,p,s,m,al,q,r,c,d,f,g,j⟩
 .have:=h.2.2 (i+1) (by simpa using a);simpa using this
def Lh{ok:br}{w:bx}{x:Tr}{k n p:Int}{s:bo}{a:bj}{l c:Nat}(h:bI ok w x (af k n p s a l c)) :
 l=(argsN x).length/\(argsN x).length<=c/\∃V,cK ok w (argsN x) a V:=by
 generalize b:af k n p s a l c=u at h
 cases h with
 | mk V e g j i m d f =>
  unfold af at b;simp only[qd4,qe4,xo,kj,jc5,Value.string.injEq,true_and,and_true]at b;obtain⟨rfl,rfl,rfl,rfl,rfl,rfl,rfl⟩:=b;exact⟨rfl,oS,V,e,d,f⟩
def Hg(k n p:Int)(s:bo)(a:bj)(l c:Nat)(w:bx) :
 Calls prog 60 #[af k n p s a l c] w λe w'=>e =.returned (.slice a l c)/\cm w w' none:=by
 unfold af;go_enter func60,ntmps60;go_wp2;go_ret;exact⟨rfl,aK _⟩
def GI:(prog.info? 121).map (λi=>(i.zero,i.size,i.bytes))=some (some (.agg #[.n0,.n0]),2,48):=oA
def mV (B:Nat) (w:bx) (v:cg) (vs:bk):Prop:=w.ownsRow B 121 2 v vs.length (bX vs)
def PK (w:bx) (r:aE×aE) (u:cg):Prop:=∃a1 c1 V1 a2 c2 V2,u=wC a1 r.1.length c1 a2 r.2.length c2/\(r.1.length<=c1/\r.2.length<=c2)/\cK (λ_=>True) w r.1 a1 V1/\cK (λ_=>True) w r.2 a2 V2
def lC (w:bx):List (aE×aE)->bk->Prop
 | [],[]=>True
 | r::rows,u::us=>PK w r u/\lC w rows us
 | [],_::_=>False
 | _::_,[]=>False
def lC.len{w:bx} : ∀{rows:List (aE×aE)}{us:bk},lC w rows us->us.length=rows.length
 | [],[],_=>rfl
 | _::_,_::_,h=>by simp[lC.len h.2]
 | [],_::_,h=>h.elim
 | _::_,[],h=>h.elim
def lC.snoc{w:bx}{r:aE×aE}{u:cg}(a:PK w r u):∀{rows:List (aE×aE)}{us:bk},lC w rows us->lC w (rows++[r]) (us++[u])
 | [],[],_=>⟨a,trivial⟩
 | _::_,_::_,h=>⟨h.1,lC.snoc a h.2⟩
 | [],_::_,h=>h.elim
 | _::_,[],h=>h.elim
def lC.last{w:bx}{us:bk}{u:cg} : ∀{rows:List (aE×aE)},lC w rows (us++[u])->∃a r,rows=a++[r]/\lC w a us/\PK w r u:=by
 induction us with
 | nil =>
  intro rows h
  match rows,h with
  | [r],h=>exact⟨[],r,rfl,trivial,h.1⟩
  | r::g::f,h=>exact h.2.elim
  | [],h=>exact h.elim
 | cons x us d =>
  intro rows h
  match rows,h with
  | r::f,h =>
   obtain⟨a,e,rfl,b,c⟩:=d h.2;exact⟨r::a,e,rfl,⟨h.1,b⟩,c⟩
  | [],h=>exact h.elim
def Zq{b:Array Oper}{rest:List Oper}{o:Oper}{a:Act}{Q:Exit->Act->bx->Prop}(B:Nat)(vs:bk)(c:bj)(i e:Nat)(d:bj)(l2 f:Nat)(w0:bx)(v:cg)(g:o.guard=none)(s x:Operand)
 (ho:o.op =.call { callee:=.builtin .append,args:=#[s,x],argTypes:=#[122,122] }) (hs:a.eval s=v) {H:Nat} (hx:a.eval x =.o H 1 1) (hH:w0.heap.size=H)
 (hown:mV B w0 v vs) (hB:B<=w0.heap.size) (hlen:vs.length<=100000000)
 (h:∀v' w',mV B w' v' (vs++[wC c i e d l2 f])->Gr w0 v w' v'->wpList prog b Q rest (a.put o.dst v') w') :
 wpList prog b Q (o::rest) a (w0.alloc (.cells #[.slice c i e,.slice d l2 f] 121)):=by
 subst hH;refine ed g s x 122 ho B 121 underlying122 GI rfl ov v vs.length (bX vs) hs (yW hown _) _ 1 [.slice c i e,.slice d l2 f] hx rfl (gZ.new _ _ _ _ _) ?_ ?_ ?_ ?_ ?_
 .intro u j;simp at j;rcases j with rfl|rfl<;>rfl
 .unfold maxLen;omega
 .omega
 .simp;omega
 .intro v' w' k l _;exact h v' w' (by unfold mV;rw[dx,qT];exact k) (Gr.trans (Gr.alloc (Gr.refl w0 v) _) l)
def XK{i:Array Oper}{o:Oper}{a:Act}{K:Act->bx->Prop}{Q:Exit->Act->bx->Prop}{E:Prop}(B:Nat)(vs:bk)(b:bj)(g d:Nat)(c:bj)(l2 e:Nat)(w0:bx)(v:cg)(f:o.guard=none)(s x:Operand)
 (ho:o.op =.call { callee:=.builtin .append,args:=#[s,x],argTypes:=#[122,122] }) (hs:a.eval s=v) {H:Nat} (hx:a.eval x =.o H 1 1) (hH:w0.heap.size=H)
 (hown:mV B w0 v vs) (hB:B<=w0.heap.size) (hlen:vs.length<=100000000)
 (h:∀v' w',mV B w' v' (vs++[wC b g d c l2 e])->Gr w0 v w' v'->K (a.put o.dst v') w') :
 if Region.wanted o (yielded i a.tmps)then Oper.wp prog o a (w0.alloc (.cells #[.slice b g d,.slice c l2 e] 121)) K Q else E:=by
 subst hH;refine yx f s x 122 ho B 121 underlying122 GI rfl ov v vs.length (bX vs) hs (yW hown _) _ 1 [.slice b g d,.slice c l2 e] hx rfl (gZ.new _ _ _ _ _) ?_ ?_ ?_ ?_ ?_
 .intro u j;simp at j;rcases j with rfl|rfl<;>rfl
 .unfold maxLen;omega
 .omega
 .simp;omega
 .intro v' w' k l _;exact h v' w' (by unfold mV;rw[dx,qT];exact k) (Gr.trans (Gr.alloc (Gr.refl w0 v) _) l)
def EI (w0:bx) (c:Tr->Tr->Int) (res:Int) (N n:Nat) (tv:cg) (wr:bx):Prop :=
 ∃(us:bk) (rows:List (aE×aE)),mV w0.heap.size wr tv us/\lC w0 rows us/\uy rows=n/\n<=N/\Cq c rows=res/\cm w0 wr none
def Ov(c:Tr->Tr->Int)(k:Nat)(eg:∀args w,(callFunc k args).run prog w =.ok (.enter k args) w){w0:World}{xs ys:List Tr}{a b:Option Addr}{ca cb:Nat}{V V2:Nat->Value}(cV:xs.length<=ca)(cX:ys.length<=cb)(hx:cK (λ_=>True) w0 xs a V)(hy:cK (λ_=>True) w0 ys b V2)
 (hcmp:∀(x y:Tr) (u v:Value) (W:World),w0.grownBy W none->bI (λ_=>True) w0 x u->bI (λ_=>True) w0 y v->x.size<=sizes xs->Calls prog k #[u,v] W λe w'=>e =.returned (.i (c x y))/\W.grownBy w' none) (hz:sizes xs<=20000000) :
 Calls prog 61 #[.slice a xs.length ca,.slice b ys.length cb,.func (.func 60) #[] #[],.func (.func k) #[] #[]] w0 λe w'=>e =.returned (.i (jk c xs ys))/\w0.grownBy w' none:=by
 generalize j:jk c xs ys=res;obtain⟨μ,hμ⟩:=mM (λn (p:Value×World)=>EI w0 c res (2*sizes xs+1) n p.1 p.2);have da:=hx.1;have db:=hy.1;obtain⟨HX,HY,HC,HM,au,du,dv,HZ⟩:=wj hx hy hcmp hμ j cV cX hz;unfold maxLen at da db;clear hx hy hcmp hμ j cV cX hz;go_enter func61,ntmps61;go_wp2_with fail;go_loopw [9] (λtv wr=>∃n,EI w0 c res (2*sizes xs+1) n tv wr) (λtv wr=>μ (tv,wr))
 case atStart =>
  refine⟨_,[wC a xs.length ca b ys.length cb],[(xs,ys)],?_,⟨⟨a,ca,V,b,cb,V2,rfl,⟨du.out,dv.out⟩,HX.out,HY.out⟩,trivial⟩,rfl,by rw[jV];exact qS _,by rw[RV];exact au.out,aK _⟩;exact⟨rfl,.inr ⟨_,1,_,rfl,qS _,jj _ _,qS _,ov,rfl,rfl⟩⟩
 case round =>
  obtain⟨n0,dc⟩:=hrel;obtain⟨us,rows,z,E,hn,cv,R,hg⟩:=(HM.out (u9,wr) n0 dc).1;simp only at z;have hz:=HZ.out;clear dc da db
  by_cases hv:us.length=0
  .obtain⟨a0,fc,rfl⟩:=mg z hv;have eE:=E.len;have de:rows=[]:=qg5.1 od;have j:res=0:=by rw[<-R,de];rfl
   have HR:=jh j;have HG:=jh hg;clear z E hn cv R hg j de eE hv au HM HC HX HY;go_wp2_with fail;go_ret;exact Lf.lX HR.out.symm HG.out
  .have cw:us≠[]:=λe=>hv (by rw[e];rfl);have e1:=(qf3 cw).symm;generalize us.dropLast=f at e1;generalize us.getLast cw=u at e1;subst e1;obtain⟨B,r,rfl,Q,eC⟩:=E.last;obtain⟨x,y⟩:=r;obtain⟨a3,c3,V3,a4,c4,V4,rfl,⟨cc,cd⟩,bh,bl⟩:=eC;simp only at cc cd bh bl;have cf:(f++[wC a3 x.length c3 a4 y.length c4]).length=f.length+1:=by simp
   have az:=World.ownsRow.form z ot;rw[cf]at az;obtain⟨g,L,rfl,I,aC⟩:=az;unfold mV at z;rw[cf]at z;have cW:=QX z;have ez:f.length<=L:=od
   obtain⟨d0,d1⟩:=zk z;have fi:f.length<=50000000:=by have h1:=E.len;have h2:=NG (B++[(x,y)]);rw[qT,ue]at h2;rw[cf,qT,ue]at h1;omega
   have cy:=bh.1;have cz:=bl.1;unfold maxLen at cy cz;obtain⟨F,H,T,U,HN,ar,G,HG⟩:=wj z Q bh bl hn cv R hg;clear z E Q bh bl hn cv R hg cw hv cW cf HX HY au
   by_cases A:x=[]\/y=[]
   .by_cases hb:x=[]/\y=[]
    .obtain⟨rfl,rfl⟩:=hb;have S:Hid (∀w,Calls prog 58 #[.i 0,.i 0] w λe w'=>e =.returned (.i 0)/\w'=w):=λw=>tT 0 0 w;have ey:Hid (∀q,∃m,m<μ (.slice (some ⟨g,0,none⟩) (f.length+1) L,wr)/\EI w0 c res (2*sizes xs+1) m (.slice (some ⟨g,0,none⟩) f.length L) (wr.drewN q)):=by
      intro q;refine⟨uy B,?_,f,B,BN (w:=wr.drewN q) F.out rfl,H.out,rfl,?_,?_,iW HG.out⟩
      .have h:=HN.out;rw[iP,jV]at h;omega
      .have h:=HN.out;have h2:=ar.out;rw[iP,jV]at h;omega
      .rw[<-G.out,RX]
     clear A cy cz cc cd HC HZ hz F H T U HN ar G;go_wp2_with fail
     go_quiet ((go_at_call 58;exact qe3 (S.out _)))
     go_wp2_with fail;obtain⟨m,h1,h2⟩:=ey.out _;go_roundw
     case rel=>exact⟨m,h2⟩
     case measure=>exact je2 (HM.out _ m h2).2 h1
    .have dg:=RU c B x y A hb;have j:gP (x.length:Nat) (y.length:Nat)=res:=by rw[<-dg];exact G.out
     have dd:¬res=0:=by
      rw[<-j];rcases A with rfl|rfl
      .have : 0<y.length:=jd0.2 (λe=>hb ⟨rfl,e⟩);rw[gP,if_pos oB];decide
      .have : 0<x.length:=jd0.2 (λe=>hb ⟨e,rfl⟩);rw[gP,if_neg ot,if_pos oB];decide
     have z1:(res==0)=false:=by simpa using dd
     have z2:(res != 0)=true:=by simpa using dd
     have S:Hid (∀w,Calls prog 58 #[.i (x.length:Nat),.i (y.length:Nat)] w λe w'=>e =.returned (.i res)/\w'=w):=λw=>by rw[<-j];exact tT _ _ w
     clear dg j cc cd HC HZ hz F H T U HN ar G
     by_cases cx:x.length=0
     .have dp:(x.length:Int)=0:=by omega
      have fa:=jh dp;rw[dp]at S;clear cx A hb;go_wp2_with fail
      go_quiet ((go_at_call 58;exact qe3 (S.out _)))
      go_wp2_with fail;go_ret;exact Lf.lX rfl (iW HG.out)
     .have eJ:y.length=0:=by
       rcases A with rfl|rfl
       .simp at cx
       .rfl
      have eI:¬(x.length:Int)=0:=od
      have fj:((x.length:Int)==0)=false:=by rw[qa1];exact eI
      have eK:(y.length:Int)=0:=od
      rw[eK]at S;clear A hb cx eJ;go_wp2_with fail
      go_quiet ((go_at_call 58;exact qe3 (S.out _)))
      go_wp2_with fail;go_ret;exact Lf.lX rfl (iW HG.out)
   .obtain⟨x1,s,rfl⟩:∃p l,x=p::l:=by
     cases x with
     | nil=>simp at A
     | cons p l=>exact⟨p,l,rfl⟩
    obtain⟨y1,t,rfl⟩:∃p l,y=p::l:=by
     cases y with
     | nil=>simp at A
     | cons p l=>exact⟨p,l,rfl⟩
    clear A;have bc:=T.out.2.2 0 ot;have bf:=U.out.2.2 0 ot;simp only[jb6]at bc bf;obtain⟨b3,o3,rfl,_,k1,n1,a1,s1,X,cq,Z,dk,e0,e1,e2,e3,e4⟩:=(T.out.2.1 0 ot).same (ni HG.out);obtain⟨N,o4,rfl,_,k2,n2,a2,s2,Y,oJ,aa,dn,f0,f1,f2,f3,f4⟩:=(U.out.2.1 0 ot).same (ni HG.out);rw[dk]at bc;rw[dn]at bf;rw[jb4,qd5]at e0 e1 e2 e3 e4 f0 f1 f2 f3 f4;have cC:=jh bc;have cD:=jh bf;have cY:∀o,wr.frozen? ⟨g,o,none⟩=false:=by
     rcases F.out.2 with⟨hq,_⟩|⟨g',eS,ff,hq,q1,q2,_⟩
     .simp at hq
     .simp only[kj,qk,qc4,and_true]at hq;obtain⟨rfl,_,_⟩:=hq;intro o;simp[World.frozen?,q2]
    clear bc bf dk dn;simp only[jn]at cy cz cc cd d0 d1|-;have z1:¬((s.length:Int)+1=0):=od
    have z2:(((s.length:Int)+1)==0)=false:=by rw[qa1];exact z1
    have z3:¬((t.length:Int)+1=0):=od
    have z4:(((t.length:Int)+1)==0)=false:=by rw[qa1];exact z3
    have q3:b3<wr.heap.size:=zr wr _ e0;have q4:N<wr.heap.size:=zr wr _ f0;have q5:¬b3=wr.heap.size:=od
    have q6:¬N=wr.heap.size:=od
    have q7:¬N=wr.heap.size+1:=od
    have q8:¬g=wr.heap.size:=od
    have q9:¬g=wr.heap.size+1:=od
    have ei:∀d:World,wr.grownBy d none->d.cell? ⟨b3,o3,none⟩=some (.i k1):=λd h=>(qt (h.block b3 q3 ot)).trans e0;have ej:∀d:World,wr.grownBy d none->d.cell? ⟨b3,o3+1,none⟩=some (.i n1):=λd h=>(qt (h.block b3 q3 ot)).trans e1;have ek:∀d:World,wr.grownBy d none->d.cell? ⟨b3,o3+2,none⟩=some (.i a1):=λd h=>(qt (h.block b3 q3 ot)).trans e2;have en:∀d:World,wr.grownBy d none->d.cell? ⟨b3,o3+3,none⟩=some (.string s1):=λd h=>(qt (h.block b3 q3 ot)).trans e3;have eo:∀d:World,wr.grownBy d none->d.cell? ⟨b3,o3+4,none⟩=some (.slice X cq Z):=λd h=>(qt (h.block b3 q3 ot)).trans e4;have ep:∀d:World,wr.grownBy d none->d.cell? ⟨N,o4,none⟩=some (.i k2):=λd h=>(qt (h.block N q4 ot)).trans f0;have er:∀d:World,wr.grownBy d none->d.cell? ⟨N,o4+1,none⟩=some (.i n2):=λd h=>(qt (h.block N q4 ot)).trans f1;have et:∀d:World,wr.grownBy d none->d.cell? ⟨N,o4+2,none⟩=some (.i a2):=λd h=>(qt (h.block N q4 ot)).trans f2;have eu:∀d:World,wr.grownBy d none->d.cell? ⟨N,o4+3,none⟩=some (.string s2):=λd h=>(qt (h.block N q4 ot)).trans f3;have ev:∀d:World,wr.grownBy d none->d.cell? ⟨N,o4+4,none⟩=some (.slice Y oJ aa):=λd h=>(qt (h.block N q4 ot)).trans f4;have cM:∀d:World,wr.grownBy d none->d.cell? ⟨g,f.length*2,none⟩=some (.slice (some ⟨b3,o3,none⟩) (s.length+1) c3):=λd h=>(qt (h.block g aC ot)).trans d0;have cN:∀d:World,wr.grownBy d none->d.cell? ⟨g,f.length*2+1,none⟩=some (.slice (some ⟨N,o4,none⟩) (t.length+1) c4):=λd h=>(qt (h.block g aC ot)).trans d1
    go_upto_region 9 with (fail)
    go_cut [12,13] (λp q wx=>∃O P:Nat,p =.pointer (some ⟨O,0,none⟩)/\q =.pointer (some ⟨P,0,none⟩)/\wr.heap.size<=O/\wr.heap.size<=P/\wx.heap[O]?=some (.cells #[.i k1,.i n1,.i a1,.string s1,.slice X cq Z] 26 (0,0))/\wx.heap[P]?=some (.cells #[.i k2,.i n2,.i a2,.string s2,.slice Y oJ aa] 26 (0,0))/\wr.grownBy wx none)
    case first =>
     go_region_held3 (λw'=>wr.grownBy w' none) (first|assumption|exact fK (bM _ _)|exact fK (aK _)|exact fK (aJ (aK _) (aK _))|exact aK _|exact aJ (aK _) (aK _)) (fail)
     all_goals
      go_wp2_with fail;go_meet
      first
      | exact⟨_,_,rfl,rfl,od,od,CJ _ _ _,rX _ _ _,fK (aJ (aK _) (aK _))⟩
      | exact⟨_,_,rfl,rfl,od,od,rX _ _ _,CJ _ _ _,fK (aJ (aK _) (aK _))⟩
    case rest =>
     obtain⟨O,P,rfl,rfl,fg,fh,ab,ad,ah⟩:=hcut;have g0:=cM wc ah;have g1:=cN wc ah;have eA:∀o,wc.frozen? ⟨g,o,none⟩=false:=by intro o;have h1:=ah.block g aC ot;have h2:=cY o;simp only[World.frozen?]at h2|-;rw[h1];exact h2
     obtain⟨K,aq,ax,ay⟩:=JT (yd F.out ah (.inr oT)) (aJ HG.out ah) ab ad;have C:g≠O:=od
     have D:g≠P:=od
     clear ei ej ek en eo ep er et eu ev cM cN e0 e1 e2 e3 e4 f0 f1 f2 f3 f4 d0 d1 ab ad ah cY
     go_upto_region 10 with (fail)
     go_cut [] (λwx=>∃(p3 p4:Option Addr) (U3 U4:Nat->Value),cK (λ_=>True) w0 s p3 U3/\cK (λ_=>True) w0 t p4 U4/\wx.ownsRow w0.heap.size 121 2 (.slice (some ⟨g,0,none⟩) (f.length+1) L) (f.length+1) (bX (f++[wC p3 s.length (c3 - 1) p4 t.length (c4 - 1)]))/\w0.grownBy wx none/\wx.heap[O]?=some (.cells #[.i k1,.i n1,.i a1,.string s1,.slice X cq Z] 26 (0,0))/\wx.heap[P]?=some (.cells #[.i k2,.i n2,.i a2,.string s2,.slice Y oJ aa] 26 (0,0)))
     case first =>
      by_cases cS:c3=1
      .by_cases ct:c4=1
       .obtain rfl:s=[]:=jt od;subst cS;obtain rfl:t=[]:=jt od;subst ct
        go_region_with (fail)
        all_goals
         go_wp2_with fail;go_meet;exact⟨_,_,_,_,cK.nil _ _ _ V3,cK.nil _ _ _ V4,ji (w:=wc) K.out,fK (aX (aX aq.out I _ _ _) I _ _ _),bH (bH ax.out C.symm _) C.symm _,bH (bH ay.out D.symm _) D.symm _⟩
       .obtain rfl:s=[]:=jt od;subst cS;have cU:¬c4 - 1=0:=by omega
        go_region_with (fail)
        all_goals
         go_wp2_with fail;go_meet;exact⟨_,_,_,_,cK.nil _ _ _ V3,vG U.out,ji (w:=wc) K.out,fK (aX (aX aq.out I _ _ _) I _ _ _),bH (bH ax.out C.symm _) C.symm _,bH (bH ay.out D.symm _) D.symm _⟩
      .by_cases ct:c4=1
       .have cT:¬c3 - 1=0:=by omega
        obtain rfl:t=[]:=jt od;subst ct
        go_region_with (fail)
        all_goals
         go_wp2_with fail;go_meet;exact⟨_,_,_,_,vG T.out,cK.nil _ _ _ V4,ji (w:=wc) K.out,fK (aX (aX aq.out I _ _ _) I _ _ _),bH (bH ax.out C.symm _) C.symm _,bH (bH ay.out D.symm _) D.symm _⟩
       .have cT:¬c3 - 1=0:=by omega
        have cU:¬c4 - 1=0:=od
        go_region_with (fail)
        all_goals
         go_wp2_with fail;go_meet;exact⟨_,_,_,_,vG T.out,vG U.out,ji (w:=wc) K.out,fK (aX (aX aq.out I _ _ _) I _ _ _),bH (bH ax.out C.symm _) C.symm _,bH (bH ay.out D.symm _) D.symm _⟩
     case rest =>
      obtain⟨p3,p4,U3,U4,cP,cQ,ba,cu,ab,ad⟩:=hcut;obtain⟨x0,eN,x2,x3,x4⟩:=bE ab;obtain⟨y0,eR,y2,y3,y4⟩:=bE ad;have dj:x1.size<=sizes xs:=by have h1:=HN.out;have h2:=ar.out;rw[iP,jV]at h1;simp only[sizes]at h1;omega
      have cr:=HC.out x1 y1 _ _ wc cu cC.out cD.out dj;unfold af at cr;obtain⟨cp,cA,eb,ee,ea,cI,cL⟩:=wi cr cu cP cQ ba ab ad;clear cr cu cP cQ ba ab ad dj K aq ax ay F;go_wp2_with fail;refine cp.out.mono ?_;rintro e J ⟨rfl,M⟩
      by_cases ae:c x1 y1=0
      .have ds:=jh ae;have cH:=jh ((M.block _ (qq.1 cI.out).1 ot).trans cI.out);have cJ:=jh ((M.block _ (qq.1 cL.out).1 ot).trans cL.out);have bb:=jh (aJ cA.out M);have cE:=jh (yd ea.out M (.inr oT));clear M cp x0 eN x2 x3 x4 y0 eR y2 y3 y4 g0 g1 eA;rw[ae];clear ae;obtain⟨rfl,cl,W1,cj⟩:=Lh cC.out;obtain⟨rfl,cn,W2,ck⟩:=Lh cD.out;have cF:=jh cj;have cG:=jh ck;have dq:=jh cl;have dr:=jh cn;have eW:mV w0.heap.size J.drew (.slice (some ⟨g,0,none⟩) (f.length+1) L) (f++[wC p3 s.length (c3 - 1) p4 t.length (c4 - 1)]):=by
        unfold mV;rw[qT];exact cE.out
       have dz:Hid (∀v' w',mV w0.heap.size w' v' ((f++[wC p3 s.length (c3 - 1) p4 t.length (c4 - 1)])++[wC X (argsN x1).length Z Y (argsN y1).length aa])->w0.grownBy w' none->∃m,m<μ (.slice (some ⟨g,0,none⟩) (f.length+1) L,wr)/\EI w0 c res (2*sizes xs+1) m v' w'):=by
        intro v' w' ch bm;have h1:=HN.out;rw[iP,jV]at h1;simp only[sizes]at h1;have h2:=QW x1;refine⟨uy (B++[(s,t)]++[((argsN x1),(argsN y1))]),?_,_,_,ch,lC.snoc ⟨X,Z,W1,Y,aa,W2,rfl,⟨dq.out,dr.out⟩,cF.out,cG.out⟩ (lC.snoc ⟨p3,c3 - 1,U3,p4,c4 - 1,U4,rfl,⟨by show s.length<=_;omega,by show t.length<=_;omega⟩,eb.out,ee.out⟩ H.out),rfl,?_,?_,bm⟩
        .rw[iP,iP,jV,jV];simp only;omega
        .have h3:=ar.out;rw[iP,iP,jV,jV];simp only;omega
        .rw[<-G.out,Oy c B x1 y1 s t ds.out]
       have ew:w0.heap.size<=J.heap.size:=bb.out.size;have eV:g<J.heap.size:=by have:=cE.out;exact (zd this g rfl).2
       have eL:O≠g:=od
       have eM:P≠g:=od
       have ai:∀d:World,J.grownBy d (some g)->d.heap[O]?=_:=λd h=>(h.block O (qq.1 cH.out).1 (by simpa using eL)).trans cH.out;have fk:∀d:World,J.grownBy d (some g)->d.cell? ⟨O,0,none⟩=some (.i k1):=λd h=>(bE (ai d h)).1;have fl:∀d:World,J.grownBy d (some g)->d.cell? ⟨O,1,none⟩=some (.i n1):=λd h=>(bE (ai d h)).2.1;have fp:∀d:World,J.grownBy d (some g)->d.cell? ⟨O,2,none⟩=some (.i a1):=λd h=>(bE (ai d h)).2.2.1;have fr:∀d:World,J.grownBy d (some g)->d.cell? ⟨O,3,none⟩=some (.string s1):=λd h=>(bE (ai d h)).2.2.2.1;have fs:∀d:World,J.grownBy d (some g)->d.cell? ⟨O,4,none⟩=some (.slice X (argsN x1).length Z):=λd h=>(bE (ai d h)).2.2.2.2;clear ai;have aj:∀d:World,J.grownBy d (some g)->d.heap[P]?=_:=λd h=>(h.block P (qq.1 cJ.out).1 (by simpa using eM)).trans cJ.out;have ft:∀d:World,J.grownBy d (some g)->d.cell? ⟨P,0,none⟩=some (.i k2):=λd h=>(bE (aj d h)).1;have fv:∀d:World,J.grownBy d (some g)->d.cell? ⟨P,1,none⟩=some (.i n2):=λd h=>(bE (aj d h)).2.1;have fx:∀d:World,J.grownBy d (some g)->d.cell? ⟨P,2,none⟩=some (.i a2):=λd h=>(bE (aj d h)).2.2.1;have fy:∀d:World,J.grownBy d (some g)->d.cell? ⟨P,3,none⟩=some (.string s2):=λd h=>(bE (aj d h)).2.2.2.1;have fz:∀d:World,J.grownBy d (some g)->d.cell? ⟨P,4,none⟩=some (.slice Y (argsN y1).length aa):=λd h=>(bE (aj d h)).2.2.2.2;clear aj;have aO:(f++[wC p3 s.length (c3 - 1) p4 t.length (c4 - 1)]).length<=100000000:=oB
       have dy:=jh aO;clear cj ck cl cn aO;go_wp2_with fail;go_region_held3 (λw'=>J.grownBy w' (some g)) (first|assumption|exact fK (bM _ _)|exact fF oS (kL (aK _))) (first
        | (go_at_call 60;refine (Hg _ _ _ _ _ _ _ _).mono ?_;rintro e w' ⟨rfl,hg⟩;have hS:=fF (r:=some g) oS (kL hg);have hO:mV w0.heap.size w' (.slice (some ⟨g,0,none⟩) (f.length+1) L) (f++[wC p3 s.length (c3 - 1) p4 t.length (c4 - 1)]):=yd oS hg (.inr oT))
        | (refine XK w0.heap.size (f++[wC p3 s.length (c3 - 1) p4 t.length (c4 - 1)]) _ _ _ _ _ _ _ (.slice (some ⟨g,0,none⟩) (f.length+1) L) rfl (.tmp 95) (.tmp 103) rfl rfl rfl rfl oS (kl ew (show J.grownBy _ (some g) from by assumption).size) dy.out ?_;intro v' w9 ch bm;have cR:J.grownBy w9 (some g):=fF oS bm.1;have dT:=jh ch;clear ch bm))
       all_goals
        have eh:=jh (aG bb.out cR I);clear cR;go_wp2_with fail;obtain⟨m,h1,h2⟩:=dz.out _ _ dT.out eh.out;go_roundw
        case rel=>exact⟨m,h2⟩
        case measure=>exact je2 (HM.out _ m h2).2 h1
      .have z5:(c x1 y1==0)=false:=by simpa using ae
       have z6:(c x1 y1 != 0)=true:=by simpa using ae
       have j:c x1 y1=res:=by rw[<-G.out,RY c _ x1 y1 s t ae]
       have ef:=jh j;have bb:=jh (aJ cA.out M);clear M cp j;go_wp2_with fail;go_ret;exact Lf.lX ef.out bb.out
def Mg{a b:bo}(h:a.toList=b.toList):a=b:=by
 have c:a.data=b.data:=by apply Array.ext';rw[jc1,jc1]at h;exact h
 cases a;cases b;simp_all
def uK (x y:Tr):Int:=if kN x=kN y/\nN x=nN y/\pN x=pN y/\(sN x).toList=(sN y).toList then 0 else 1
def uL (x y:Va):Int:=if (x.k=y.k/\x.n=y.n/\x.a=y.a/\x.s.toList=y.s.toList)/\sameTs x.types y.types/\jk uK x.code y.code=0 then 0 else 1
def ent_sc2:∀args w,(callFunc 62 args).run prog w =.ok (.enter 62 args) w:=λargs w=>OF
def ent_same1g:∀args w,(callFunc 37 args).run prog w =.ok (.enter 37 args) w:=λargs w=>OF
def QP{w:bx}{x y:Tr}{u v:cg}(O:bI (λ_=>True) w x u)(P:bI (λ_=>True) w y v)(W:bx) :
 Calls prog 62 #[u,v] W λe w'=>e =.returned (.i (uK x y))/\cm W w' none:=by
 cases O with
 | @mk l m n o args a c hk V L N R Q S K M =>
 cases P with
 | @mk p r s t f U X A T B D F E G z C =>
 generalize I:uK _ _=q;have b:Hid (q=if l=p/\m=r/\n=s/\o.toList=t.toList then 0 else 1):=I.symm;clear I K M z C R Q S F E G L B hk A N D;generalize args.length=Y at *;generalize f.length=Z at *;unfold af at *
 by_cases h:l=p
 case neg =>
  have H:(l==p)=false:=by simpa using h
  have J:(l != p):=by simpa using h
  have d:Hid (q=1):=by show q=1;rw[b.out,if_neg (λe=>h e.1)]
  clear b;go_enter func62,ntmps62;go_wp2;go_ret;exact Lf.lX d.symm (aJ (aK _) (aK _))
 subst h
 by_cases j:m=r
 case neg =>
  have H:(m==r)=false:=by simpa using j
  have J:(m != r):=by simpa using j
  have d:Hid (q=1):=by show q=1;rw[b.out,if_neg (λe=>j e.2.1)]
  clear b;go_enter func62,ntmps62;go_wp2;go_ret;exact Lf.lX d.symm (aJ (aK _) (aK _))
 subst j
 by_cases k:n=s
 case neg =>
  have H:(n==s)=false:=by simpa using k
  have J:(n != s):=by simpa using k
  have d:Hid (q=1):=by show q=1;rw[b.out,if_neg (λe=>k e.2.2.1)]
  clear b;go_enter func62,ntmps62;go_wp2;go_ret;exact Lf.lX d.symm (aJ (aK _) (aK _))
 subst k
 by_cases g:o.toList=t.toList
 case neg =>
  have z3:¬o.toList=t.toList:=g;have H:(o.toList==t.toList)=false:=by simpa using g
  have d:Hid (q=1):=by show q=1;rw[b.out,if_neg (λe=>g e.2.2.2)]
  clear b;go_enter func62,ntmps62;go_wp2;go_ret;exact Lf.lX d.symm (aJ (aK _) (aK _))
 obtain rfl:=Mg g;have d:Hid (q=0):=by show q=0;rw[b.out,if_pos ⟨rfl,rfl,rfl,rfl⟩]
 clear b g;go_enter func62,ntmps62;go_wp2;go_ret;exact Lf.lX d.symm (aJ (aK _) (aK _))
def Fz{w:bx}{xs ys:aE}{a b:bj}{ca cb:Nat}{V n:bt}(c:xs.length<=ca)(d:ys.length<=cb)(f:cK (λ_=>True) w xs a V)(g:cK (λ_=>True) w ys b n)(l:sizes xs<=20000000)(W:bx)(i:cm w W none) :
 Calls prog 40 #[.slice a xs.length ca,.slice b ys.length cb] W λe w'=>e =.returned (.bool (decide (jk uK xs ys=0)))/\cm W w' none:=by
 have H:=jh (λj (h:cm W j none)=>Ov uK 62 ent_sc2 (w0:=j) c d (f.same (ni (aJ i h))) (g.same (ni (aJ i h))) (λx y u v o p f g _=>QP f g o) l);clear f g l i c d;generalize jk uK xs ys=r at *;generalize xs.length=s at *;generalize ys.length=t at *;go_enter func40,ntmps40;go_wp2_with fail;refine (H _ (bM _ _)).mono ?_;rintro e q ⟨rfl,k⟩;have m:=jh k;clear k;go_wp2;go_ret;exact Lf.kZ (by rw[qd2];simp) m
def aA.EN{ok:br}{w:bx}{x:Va}{v:cg}(h:aA ok w x v):∃b ac ta tc na nc VT VN,v=Go.Proofs.YtgfdimkbfnpepaaGreat.bg x.k x.n x.a x.s b x.args.length ac ta x.types.length tc na x.code.length nc/\(x.code.length<=nc/\x.types.length<=tc)/\dw ok w x.types ta VT/\cK ok w x.code na VN:=by
 cases h with
 | mk V VT VN f d i m j l c hN e g=>exact⟨_,_,_,_,_,_,VT,VN,rfl,oS,c,hN⟩
def Kn{w:bx}{x y:Va}{u v:cg}(hx:aA (λ_=>True) w x u)(hy:aA (λ_=>True) w y v)(hz:x.size<=20000000)(W:bx)(hW:cm w W none) :
 Calls prog 37 #[u,v] W λe w'=>e =.returned (.i (uL x y))/\cm W w' none:=by
 obtain⟨O,P,V,N,U,M,VT,VN,rfl,⟨hk,_⟩,hT,hN⟩:=hx.EN;obtain⟨D,E,G,A,F,z,ae,ad,rfl,⟨L,_⟩,K,J⟩:=hy.EN;have ab:=eP x;have B:=jh (λH (h:cm W H none)=>tY (ca:=N) (cb:=A) hT K od H (aJ hW h));have r:=jh (λH (h:cm W H none)=>Fz (ca:=M) (cb:=z) hk L hN J od H (aJ hW h));have hR:uL x y=if (x.k=y.k/\x.n=y.n/\x.a=y.a/\x.s.toList=y.s.toList)/\sameTs x.types y.types/\jk uK x.code y.code=0 then 0 else 1:=rfl
 clear hx hy hT K hN J hk L hz hW ab;generalize uL x y=q at *;have d:=jh hR;clear hR;generalize sameTs x.types y.types=st at *;generalize jk uK x.code y.code=sn at *;generalize x.k=m at *;generalize y.k=yk at *;generalize x.n=o at *;generalize y.n=yn at *;generalize x.a=l at *;generalize y.a=ya at *;generalize x.s=p at *;generalize y.s=ys at *;generalize x.args.length=Y at *;generalize y.args.length=yl at *;generalize x.types.length=Z at *;generalize y.types.length=yt at *;generalize x.code.length=X at *;generalize y.code.length=yc at *;unfold bg at *
 by_cases Q:m=yk
 case neg =>
  have z1:(m==yk)=false:=by simpa using Q
  have z2:(m != yk):=by simpa using Q
  have g:Hid (q=1):=by show q=1;rw[d.out,if_neg (λe=>Q e.1.1)]
  clear d B r;go_enter func37,ntmps37;go_wp2;go_ret;exact Lf.lX g.symm (aJ (aK _) (aK _))
 subst Q
 by_cases R:o=yn
 case neg =>
  have z1:(o==yn)=false:=by simpa using R
  have z2:(o != yn):=by simpa using R
  have g:Hid (q=1):=by show q=1;rw[d.out,if_neg (λe=>R e.1.2.1)]
  clear d B r;go_enter func37,ntmps37;go_wp2;go_ret;exact Lf.lX g.symm (aJ (aK _) (aK _))
 subst R
 by_cases S:l=ya
 case neg =>
  have z1:(l==ya)=false:=by simpa using S
  have z2:(l != ya):=by simpa using S
  have g:Hid (q=1):=by show q=1;rw[d.out,if_neg (λe=>S e.1.2.2.1)]
  clear d B r;go_enter func37,ntmps37;go_wp2;go_ret;exact Lf.lX g.symm (aJ (aK _) (aK _))
 subst S
 by_cases I:p.toList=ys.toList
 case neg =>
  have z3:¬p.toList=ys.toList:=I;have z1:(p.toList==ys.toList)=false:=by simpa using I
  have g:Hid (q=1):=by show q=1;rw[d.out,if_neg (λe=>I e.1.2.2.2)]
  clear d B r;go_enter func37,ntmps37;go_wp2;go_ret;exact Lf.lX g.symm (aJ (aK _) (aK _))
 obtain rfl:=Mg I;clear I;have⟨f,t,j⟩:=we (aJ (aK (w:=W) (.cells #[.i m,.i o,.i l,.string p,.slice O Y P,.slice V Z N,.slice U X M] 36)) (aK (.cells #[.i m,.i o,.i l,.string p,.slice D yl E,.slice G yt A,.slice F yc z] 36))) (CJ W (.cells #[.i m,.i o,.i l,.string p,.slice O Y P,.slice V Z N,.slice U X M] 36) (.cells #[.i m,.i o,.i l,.string p,.slice D yl E,.slice G yt A,.slice F yc z] 36)) (jj (W.alloc (.cells #[.i m,.i o,.i l,.string p,.slice O Y P,.slice V Z N,.slice U X M] 36)) (.cells #[.i m,.i o,.i l,.string p,.slice D yl E,.slice G yt A,.slice F yc z] 36));rw[show (W.alloc (.cells #[.i m,.i o,.i l,.string p,.slice O Y P,.slice V Z N,.slice U X M] 36)).heap.size=W.heap.size+1 from by simp]at j
 cases st with
 | false =>
  have g:Hid (q=1):=by show q=1;rw[d.out,if_neg (λe=>by have:=e.2.1;cases this)]
  clear d r;go_enter func37,ntmps37;go_wp2_with fail;refine (B _ f).mono ?_;rintro e w1 ⟨rfl,b⟩;have c:=jh (aJ f b);clear b;go_wp2;go_ret;exact Lf.lX g.symm c
 | true =>
  by_cases T:sn=0
  .subst T;have g:Hid (q=0):=by show q=0;rw[d.out,if_pos ⟨⟨rfl,rfl,rfl,rfl⟩,rfl,rfl⟩]
   rw[qh1 rfl]at r;clear d;go_enter func37,ntmps37;go_wp2_with fail;refine (B _ f).mono ?_;rintro e w1 ⟨rfl,b⟩;have⟨_,_,_,_,_,_,m6⟩:=cO ((b.block _ (qq.1 t).1 ot).trans t);have⟨_,_,_,_,_,_,r6⟩:=cO ((b.block _ (qq.1 j).1 ot).trans j);have c:=jh (aJ f b);clear b;go_wp2_with fail;refine (r _ c).mono ?_;rintro e w2 ⟨rfl,b⟩;have C:=jh (aJ c b);clear b;go_wp2;go_ret;exact Lf.lX g.symm C
  .have g:Hid (q=1):=by show q=1;rw[d.out,if_neg (λe=>T e.2.2)]
   rw[qc7 T]at r;clear d T;go_enter func37,ntmps37;go_wp2_with fail;refine (B _ f).mono ?_;rintro e w1 ⟨rfl,b⟩;have⟨_,_,_,_,_,_,m6⟩:=cO ((b.block _ (qq.1 t).1 ot).trans t);have⟨_,_,_,_,_,_,r6⟩:=cO ((b.block _ (qq.1 j).1 ot).trans j);have c:=jh (aJ f b);clear b;go_wp2_with fail;refine (r _ c).mono ?_;rintro e w2 ⟨rfl,b⟩;have C:=jh (aJ c b);clear b;go_wp2;go_ret;exact Lf.lX g.symm C
def Oo{w:bx}{x y:Va}{u v:cg}(j:aA (λ_=>True) w x u)(k:aA (λ_=>True) w y v)(K:x.size<=20000000)(W:bx)(q:cm w W none) :
 Calls prog 16 #[u,v] W λe w'=>e =.returned (.bool (decide (qg uL x y=0)))/\cm W w' none:=by
 obtain⟨Y,n1,Q,s1,l,p,n,E,fE,G,t,C,A,rfl⟩:=j.bg;obtain⟨Z,n2,R,s2,m,oJ,o,F,sM,H,z,D,B,rfl⟩:=k.bg;have⟨N,O,I⟩:=we (aA.up j q) (aA.up k q) K;have J:∀(a:bx) (b c:Nat) (d f:Nat),cm W a none->1<=d->1<=f->a.heap[b]?=some (.cells #[.i Y,.i n1,.i Q,.string s1,.slice l p n,.slice E fE G,.slice t C A] 36 (0,0))->a.heap[c]?=some (.cells #[.i Z,.i n2,.i R,.string s2,.slice m oJ o,.slice F sM H,.slice z D B] 36 (0,0)) ->
  Calls prog 35 #[.o b 1 d,.o c 1 f,.func (.func 36) #[] #[],.func (.func 37) #[] #[]] a λe w'=>e =.returned (.i (qg uL x y))/\cm a w' none:=by
  intro a b c d f g S T V X;have h:=Im uL 37 ent_same1g (w0:=a) (xs:=[x]) (ys:=[y]) (ca:=d) (cb:=f) S T (vF V (aA.up N g)) (vF X (aA.up O g)) (λx' y' u v P U j k s=>Kn j k (by have:=I.out;simp[vsizes]at s;omega) P U) (by have:=I.out;simp[vsizes];omega);rw[Eg]at h;exact h
 have M:=jh J;clear J j k K q;generalize qg uL x y=r at *;unfold bg at *;go_enter func16,ntmps16;go_wp2_with fail;refine (M _ _ _ 1 1 (aJ (aJ (aJ (aK _) (aK _)) (aK _)) (aK _)) (qS _) (qS _) (kH _ _ _ _ _) (xV _ _ _ _ _)).mono ?_;rintro e w1 ⟨rfl,g⟩;have L:=jh (aJ (aJ (aJ (aJ (aK _) (aK _)) (aK _)) (aK _)) g);clear g;go_wp2;go_ret;exact Lf.kZ (by rw[qd2];simp) L
open Go.RowKit
def Ij (x y:Va):Bool:=decide (qg uL x y=0)
structure En where
 self:Int
 sender:Int
 amount:Int
 balance:Int
structure Fr where
 rest:aE
 op:Int
 row:aE
 aside:an
structure Ma where
 paid:Int
 aO:Int
 said:Va
 st:an
 fr:List Fr
inductive Out where
 | stuck
 | no (e:Int) (m:Ma)
 | go (m:Ma)
def mkV (k:Int) (args:an):Va:=.mk k 0 0 ⟨#[]⟩ args [] []
def aW (k n:Int):Va:=.mk k n 0 ⟨#[]⟩ [] [] []
def aV (v:Va):Va:=mkV 9 [v]
def noneV:Va:=mkV 9 []
def aY (a b:Va):Va:=mkV 11 [a,b]
def di (s:bo):Va:=.mk 6 0 0 s [] [] []
def aZ (b:Bool):Va:=aW 2 (if b then 1 else 0)
def nE (n:Int) (v:Va):Va:=.mk 12 n 0 ⟨#[]⟩ [v] [] []
def aM (a n:Int) (v:Va):Va:=.mk 15 n a ⟨#[]⟩ [v] [] []
def yN (v:Va):Bool:=decide (200<wrap64 (vsum v:Nat))
def bz (m:Ma) (l:an):Out:=if 20000000<vsizes l then .stuck else if l.any yN then .no 13 m else .go { m with st:=l++m.st }
def uH (aC:Int) (m:Ma) (k:Ma->Out):Out:=if aC<=m.paid then .no 12 m else k { m with paid:=m.paid+1 }
def dK (n:Tr) (i:Nat):Tr:=(n.args0[i]?).getD tr0
def p9 (n:Tr) (m:Ma):Out :=
 if n.p0=40 then (match m.st with
  | _::s=>.go { m with st:=s }
  | []=>.stuck)
 else if n.p0=41 then (if 1<=(dK n 0).n0 then (match m.st[(dK n 0).n0.toNat - 1]? with
  | some v=>bz m [v]
  | none=>.stuck)else .stuck)
 else if n.p0=42 then (match m.st with
  | a::b::s=>bz { m with st:=s } [b,a]
  | _=>.stuck)
 else if n.p0=43 then (if 0<=(dK n 0).n0 then (match m.st[(dK n 0).n0.toNat]? with
  | some v=>.go { m with st:=v::m.st.eraseIdx (dK n 0).n0.toNat }
  | none=>.stuck)else .stuck)
 else (match m.st with
  | v::s=>if 0<=(dK n 0).n0/\(dK n 0).n0<=s.length then .go { m with st:=s.take (dK n 0).n0.toNat++v::s.drop (dK n 0).n0.toNat } else .stuck
  | []=>.stuck)
def l8 (p:Int) (m:Ma):Out :=
 if p=54 then bz m [noneV]else match m.st with
 | []=>.stuck
 | a::s =>
  if p=46 then (match s with
   | b::s=>bz { m with st:=s } [aY a b]
   | []=>.stuck)
  else if p=48 then (match a.args with
   | x::_=>bz { m with st:=s } [x]
   | []=>.stuck)
  else if p=49 then (match a.args with
   | _::y::_=>bz { m with st:=s } [y]
   | _=>.stuck)
  else if p=50 then bz { m with st:=s } [nE 0 a]
  else if p=51 then bz { m with st:=s } [nE 1 a]
  else if p=53 then bz { m with st:=s } [aV a]
  else bz { m with st:=s } a.args
def jP (m:Ma) (k:Int) (l:an):Out:=if 24<l.length then .no 13 m else bz m [mkV k l]
def kz (l:an) (key:Va):Nat:=(l.takeWhile λx=>decide (gT (fU x) key<0)).length
def fJ (l:an) (key:Va):Bool:=match l[kz l key]? with
 | some x=>decide (gT (fU x) key=0)
 | none=>false
def uO (l:an) (key:Va) (item:an):an:=l.take (kz l key)++(item.map (aY key)++l.drop (if fJ l key then kz l key+1 else kz l key))
def il (p:Int) (m:Ma):Out :=
 if p=56 then bz m [mkV 10 []]else if p=61 then bz m [mkV 13 []]else match m.st with
 | []=>.stuck
 | a::s =>
  if p=59 then bz { m with st:=s } [aW 4 (a.s.size+a.args.length:Nat)]
  else match s with
  | []=>.stuck
  | b::s =>
   if p=57 then jP { m with st:=s } 10 (a::b.args)
   else if p=62 then (if risesF b.args then (if fJ b.args a then (match b.args[kz b.args a]? with
    | some x=>(match x.args with
     | _::y::_=>bz { m with st:=s } [aV y]
     | _=>.stuck)
    | none=>.stuck)else bz { m with st:=s } [noneV])else .stuck)
   else (match s with
    | c::s=>if risesF c.args then jP { m with st:=s } 13 (uO c.args a b.args)else .stuck
    | []=>.stuck)
def ru (p:Int) (v:Va):Nat×an :=
 if p=52 then (v.n.toNat,v.args)else if p=55 then (v.args.length,v.args)else if p=64 then (if v.n=1 then 0 else 1,v.args)
 else match v.args with
  | []=>(1,[])
  | x::l=>(0,[x,mkV 10 l])
def gJ (n:Tr) (m:Ma):Out:=match m.st with
 | []=>.stuck
 | v::s=>match n.args0[(ru n.p0 v).1]? with
  | none=>.stuck
  | some t=>if n.p0=52/\v.n<0 then .stuck else bz { m with st:=s,fr:=⟨t.args0,0,[],[]⟩::m.fr } (ru n.p0 v).2
def mq (n:Tr) (m:Ma):Out :=
 if n.p0=60 then (match m.st with
  | v::s=>.go { m with st:=s,fr:=⟨[],60,(dK n 0).args0,v.args⟩::m.fr }
  | []=>.stuck)
 else if n.p0=65 then .go { m with fr:=⟨[],65,(dK n 0).args0,[]⟩::m.fr }
 else if n.p0=68 then (match m.st with
  | v::s=>.go { m with st:=s,fr:=⟨(dK n 0).args0,68,[],[v]⟩::m.fr }
  | []=>.stuck)
 else if n.p0=67 then (match m.st with
  | a::b::s=>.go { m with st:=[a],fr:=⟨b.code,67,[],s.reverse⟩::m.fr }
  | _=>.stuck)
 else bz m [.mk 14 0 0 ⟨#[]⟩ [] [kreadT (dK n 0),kreadT (dK n 1)] (dK n 2).args0]
def kF (n:Int):Int×Int:=if kE n then (n,0)else (0,11)
def addN (a b:Int):Int×Int:=if kE a/\kE b then kF (a+b)else (0,2)
def Iu (a b:Int):Int×Int:=if kE a/\kE b then kF (a - b)else (0,2)
def mulN (a b:Int):Int×Int:=if kE a/\kE b then kF (a*b)else (0,2)
def EJ (a:Int):Int×Int:=if kE a then ((a.natAbs:Int),0)else (0,2)
def iU (p a b:Int):Int×Int:=if p=69 then addN a b else if p=70 then Iu a b else mulN a b
def mK (p a b:Int):Int:=if a=5\/b=5 then 5 else if p≠70/\a=4/\b=4 then 4 else 3
def oV (m:Ma) (k:Int) (r:Int×Int):Out:=if r.2=0 then bz m [aW k r.1]else .no r.2 m
def rH (a b:Int):Int×Int:=if a=5/\b=5 then (4,5)else if a=5 then (5,5)else if a=4/\b=4 then (4,4)else (3,4)
def Gu (m:Ma) (a b:Va):Out :=
 if kE a.n/\kE b.n then (if b.n=0 then bz m [noneV]
  else bz m [aV (aY (aW (rH a.k b.k).1 (a.n / b.n)) (aW (rH a.k b.k).2 (a.n % b.n)))])else .no 2 m
def gL (p:Int) (m:Ma):Out:=match m.st with
 | []=>.stuck
 | a::s =>
  if p=93 then oV { m with st:=s } 4 (EJ a.n)
  else if p=94 then bz { m with st:=s } [if a.n<0 then noneV else aV (aW 4 a.n)]
  else if p=95 then bz { m with st:=s } [aW 3 a.n]
  else match s with
  | []=>.stuck
  | b::s =>
   if p=72 then Gu { m with st:=s } a b
   else if p=70/\a.k=5 then bz { m with st:=s } [if (iU p a.n b.n).1<0 then noneV else aV (aW 5 (iU p a.n b.n).1)]
   else oV { m with st:=s } (mK p a.k b.k) (iU p a.n b.n)
def kJ (v:Va):Bool:=decide (v.n=1)
def xm (p:Int) (m:Ma):Out:=match m.st with
 | []=>.stuck
 | a::s =>
  if p=74 then bz { m with st:=s } [aZ (decide (a.n=0))]
  else if p=75 then bz { m with st:=s } [aZ (decide (a.n<0))]
  else if p=76 then bz { m with st:=s } [aZ (decide (0<a.n))]
  else if p=77 then bz { m with st:=s } [aZ (!kJ a)]
  else match s with
  | []=>.stuck
  | b::s =>
   if p=73 then bz { m with st:=s } [aW 3 (gT a b)]
   else if p=78 then bz { m with st:=s } [aZ (kJ a&&kJ b)]
   else bz { m with st:=s } [aZ (kJ a||kJ b)]
def oz (v:Va):Option bo:=if dS (dR v)=0/\(encTr (dR v)).length<=199 then some ⟨(5::encTr (dR v)).toArray⟩else none
def jQ (n:Tr) (m:Ma):Out :=
 if n.p0=45 then (match jf (kreadT (dK n 0)) (dK n 1)with
  | some v=>bz m [v]
  | none=>.stuck)
 else match m.st with
 | []=>.stuck
 | a::s =>
  if n.p0=80 then (match s with
   | b::s=>if 200<a.s.size+b.s.size then .no 13 m else bz { m with st:=s } [di (a.s++b.s)]
   | []=>.stuck)
  else if n.p0=81 then (if (dR a).size<=301 then (match oz a with
   | some t=>bz { m with st:=s } [di t]
   | none=>.no 13 m)else .stuck)
  else if n.p0=82 then (match jw (kreadT (dK n 0)) a.s.toList with
   | some v=>bz { m with st:=s } [aV v]
   | none=>bz { m with st:=s } [noneV])
  else .no 10 { m with said:=a }
def iB (en:En) (p:Int) (m:Ma):Out:=match m.st with
 | []=>.stuck
 | a::s =>
  if p=84 then (match s with
   | b::s=>if b.n=0 then bz { m with st:=s } [noneV]else if (addN m.aO b.n).2=0 then bz { m with st:=s,aO:=(addN m.aO b.n).1 } [aV (aM en.self b.n a)]else .no (addN m.aO b.n).2 m
   | []=>.stuck)
  else if p=85 then (match a.args with
   | x::_=>bz { m with st:=s } [aY (aW 7 a.a) (aY x (aW 4 a.n)),a]
   | []=>.stuck)
  else if p=86 then (match s,a.args with
   | b::s,x::_=>(match b.args with
    | y::z::_=>if y.n=0\/z.n=0\/wrap64 (y.n+z.n)≠a.n then bz { m with st:=s } [noneV]else bz { m with st:=s } [aV (aY (aM a.a y.n x) (aM a.a z.n x))]
    | _=>.stuck)
   | _,_=>.stuck)
  else (match a.args with
   | y::z::_=>(match y.args,z.args with
    | u::_,v::_=>if y.a≠z.a\/Ij u v=false then bz { m with st:=s } [noneV]else if (addN y.n z.n).2=0 then bz { m with st:=s } [aV (aM y.a (addN y.n z.n).1 u)]else .no (addN y.n z.n).2 m
    | _,_=>.stuck)
   | _=>.stuck)
def iw (en:En) (n:Tr) (m:Ma):Out :=
 if n.p0=89 then bz m [aW 7 en.self]else if n.p0=90 then bz m [aW 7 en.sender]else if n.p0=91 then bz m [aW 5 en.amount]else if n.p0=92 then bz m [aW 5 en.balance]
 else match m.st with
 | v::a::t::s=>bz { m with st:=s } [.mk 8 a.n t.n ⟨#[]⟩ [v] [kreadT (dK n 0)] []]
 | _=>.stuck
def Qy (en:En) (n:Tr) (m:Ma):Out :=
 if n.p0=40\/n.p0=41\/n.p0=42\/n.p0=43\/n.p0=44 then p9 n m
 else if n.p0=46\/n.p0=47\/n.p0=48\/n.p0=49\/n.p0=50\/n.p0=51\/n.p0=53\/n.p0=54 then l8 n.p0 m
 else if n.p0=56\/n.p0=57\/n.p0=59\/n.p0=61\/n.p0=62\/n.p0=63 then il n.p0 m
 else if n.p0=52\/n.p0=55\/n.p0=58\/n.p0=64 then gJ n m
 else if n.p0=60\/n.p0=65\/n.p0=66\/n.p0=67\/n.p0=68 then mq n m
 else if n.p0=69\/n.p0=70\/n.p0=71\/n.p0=72\/n.p0=93\/n.p0=94\/n.p0=95 then gL n.p0 m
 else if n.p0=73\/n.p0=74\/n.p0=75\/n.p0=76\/n.p0=77\/n.p0=78\/n.p0=79 then xm n.p0 m
 else if n.p0=45\/n.p0=80\/n.p0=81\/n.p0=82\/n.p0=83 then jQ n m
 else if n.p0=84\/n.p0=85\/n.p0=86\/n.p0=87 then iB en n.p0 m
 else iw en n m
def Iq (en:En) (aC:Int) (n:Tr) (m:Ma):Out :=
 if n.k0=3 then .go { m with fr:=⟨n.args0,0,[],[]⟩::m.fr } else uH aC m (Qy en n)
def Bz (aC:Int) (f:Fr) (fs:List Fr) (m:Ma):Out :=
 if f.op=60 then (match f.aside with
  | x::l=>uH aC { m with st:=x::m.st,fr:=⟨f.row,60,f.row,l⟩::fs } .go
  | []=>.go { m with fr:=fs })
 else if f.op=65 then (match m.st with
  | v::s=>if kJ v then uH aC { m with st:=s,fr:=⟨f.row,65,f.row,f.aside⟩::fs } .go else .go { m with st:=s,fr:=fs }
  | []=>.stuck)
 else if f.op=68 then .go { m with st:=f.aside.reverse++m.st,fr:=fs }
 else if f.op=67 then .go { m with st:=m.st++f.aside.reverse,fr:=fs }
 else .go { m with fr:=fs }
def uB (en:En) (aC:Int) (m:Ma):Out:=match m.fr with
 | []=>.stuck
 | f::fs=>match f.rest with
  | []=>Bz aC f fs m
  | n::l=>Iq en aC n { m with fr:=⟨l,f.op,f.row,f.aside⟩::fs }
def fq (en:En) (aC:Int):Nat->Ma->Out
 | 0,_=>.stuck
 | N+1,m=>match m.fr with
  | []=>.go m
  | _::_=>match uB en aC m with
   | .go m'=>fq en aC N m'
   | .no e m'=>.no e m'
   | .stuck=>.stuck
def mr:(prog.info? 36).map (λi=>(i.zero,i.size,i.bytes))=some (some (.agg #[.i 0,.i 0,.i 0,.string ⟨#[]⟩,.n0,.n0,.n0]),7,112):=oA
def dF (B:Nat) (w:bx) (v:cg) (vs:bk):Prop:=w.ownsRow B 36 7 v vs.length (flat vs)
structure iL (K:br) (H:Nat) (w:bx) (v:cg) (ts:an) (vs:bk):Prop where
 own:dF H w v vs
 len:vs.length=ts.length
 lies:∀(i:Nat) (t:Va) (u:cg),ts[i]?=some t->vs[i]?=some u->aA (λb=>(K b\/H<=b)/\some b≠v.ownBlock) w t u
def iL.push{K:br}{H:Nat}{w w':bx}{v v' u:cg}{ts:an}{vs:bk}{t:Va}{S:Nat}(h:iL K H w v ts vs)(f:∀b,K b->b<H)(E:H<=S)(m:∀k,v.ownBlock=some k->k<S)(y:aA (λb=>K b\/S<=b) w t u)(p:Gr w v w' v')(B:dF H w' v' (vs++[u])):iL K H w' v' (ts++[t]) (vs++[u]):=by
 have n:∀t u,aA (λb=>(K b\/H<=b)/\some b≠v.ownBlock) w t u->aA (λb=>(K b\/H<=b)/\some b≠v'.ownBlock) w' t u:=by
  intro t u A;have x:=A.ae (ok':=λb=>(K b\/H<=b)/\some b≠v.ownBlock/\some b≠v'.ownBlock) (λb a hk=>⟨hk.1,hk.2,by
   rcases p.2 with e|⟨g,e,z⟩
   .rw[e];exact hk.2
   .rw[e];simp;omega⟩)
  refine (x.same (w':=w') ?_).ae (λb _ a=>⟨a.1,a.2.2⟩);intro b o a l;exact qt (p.block l a.2.1)
 refine⟨B,by simp[h.len],λi r s c d=>n r s ?_⟩
 by_cases q:i<ts.length
 .rw[ju q]at c;rw[ju (by rw[h.len];exact q)]at d;exact h.lies i r s c d
 .have j:i=ts.length:=by
   have:=(qv.1 c).1;simp at this;omega
  subst j;rw[js (qS _)]at c;rw[<-h.len,js (qS _)]at d;simp at c d;subst c;subst d;exact y.ae (λb _ a=>⟨a.imp id od,λe=>by have C:=m b e.symm;have D:=(zd h.own b e.symm).1;rcases a with a|a;have:=f b a;all_goals omega⟩)
def flatV_get:∀(vs:bk),(∀u∈vs,(nodeCells u).length=7)->∀(i j:Nat) (u:cg),vs[i]?=some u->j<7->(flat vs)[i*7+j]?=(nodeCells u)[j]?
 | [],_,i,j,u,h,_=>by simp at h
 | x::vs,a,0,j,u,h,b=>by simp at h;subst h;have:=a x ot;simp only[flat,qc6];rw[ju od];simp
 | x::vs,a,i+1,j,u,h,b=>by have c:=a x ot;have:=flatV_get vs (λu d=>a u (by simp[d])) i j u (by simpa using h) b;simp only[flat,qc6]at this|-;rw[js od,c,show (i+1)*7+j - 7=i*7+j from by omega];exact this
def iL.done{K:br}{H:Nat}{w:bx}{v:cg}{ts:an}{vs:bk}(h:iL K H w v ts vs)(S:ts.length<=maxLen) :
 ∃(a:bj) (c:Nat) (V:bt),v =.slice a ts.length c/\ts.length<=c/\aT (λb=>K b\/H<=b) w ts a V:=by
 have R:=h.len;have f:∀i (l:i<ts.length),∃u,vs[i]?=some u/\aA (λb=>K b\/H<=b) w ts[i] u:=by
  intro i l;have D:i<vs.length:=od
  exact⟨vs[i],qn D,(h.lies i ts[i] vs[i] (qn l) (qn D)).ae (λb _ N=>N.1)⟩
 have M:∀u∈vs,(nodeCells u).length=7:=by intro u U;obtain⟨i,l,rfl⟩:=yq U;have⟨u,e,m⟩:=f i od;rw[qn l]at e;simp at e;have⟨k,n,p,s,B,al,C,I,tl,J,E,G,F,q⟩:=m.bg;rw[e,q];rfl
 have z:=h.own;unfold dF at z;rcases z.2 with⟨rfl,X⟩|⟨g,r,L,rfl,y,Y,T,O,P,A⟩
 .have t:ts.length=0:=by omega
  exact⟨none,0,λ_=>.i 0,by rw[t],od,od,λi l=>od,λi l=>od⟩
 .refine⟨some ⟨g,0,none⟩,r,λi=>(vs[i]?).getD (.i 0),by rw[R],od,S,λi l=>?_,λi l=>?_⟩
  .have⟨u,e,m⟩:=f i l;have⟨k,n,p,s,B,al,C,I,tl,J,E,G,F,q⟩:=m.bg;have d:∀j x,j<7->(nodeCells u)[j]?=some x->w.cell? ⟨g,i*7+j,none⟩=some x:=by
    intro j x Q W;have:=qa3 z (g:=g) rfl (i*7+j) x (by rw[flatV_get vs M i j u e Q];exact W);have o:(⟨g,0,none⟩:Addr).add (i*7+j)=⟨g,i*7+j,none⟩:=oX
    rwa [o]at this
   rw[q]at d;refine⟨g,0,rfl,.inr y,k,n,p,s,B,al,C,I,tl,J,E,G,F,by show (vs[i]?).getD _=_;rw[e];exact q,?_,?_,?_,?_,?_,?_,?_⟩
   .have:=d 0 _ od rfl;simpa using this
   .have:=d 1 _ od rfl;simpa using this
   .have:=d 2 _ od rfl;simpa using this
   .have:=d 3 _ od rfl;simpa using this
   .have:=d 4 _ od rfl;simpa using this
   .have:=d 5 _ od rfl;simpa using this
   .have:=d 6 _ od rfl;simpa using this
  .have⟨u,e,m⟩:=f i l;show aA _ _ _ ((vs[i]?).getD _);rw[e];exact m
