import Derived.Test.YtnamdihclpbdfaaGreatKuZai
namespace Go.Proofs.YtnamdihclpbdfaaGreat
set_option linter.all false
open Go.Proofs.Tryz
open Go.RowKit
set_option maxRecDepth 10000
variable {f:Bool}{en:En}{i j:Ins}{a aC b k n:Int}{S s ts x z:aw}{fs:bw}{item l:ao}{m m0:Ma}{N d:Nat}{c t:Tr}{A B T:Ty}{key v:Va}
def Fit (T:Ty) (v:Va):Prop:=qC T v
def FitS:aw->ao->Prop
 | [],[]=>True
 | T::s,v::l=>Fit T v/\FitS s l
 | [],_::_=>False
 | _::_,[]=>False
def fitS_len:∀{s:aw}{l:ao},FitS s l->s.length=l.length
 | [],[],_=>rfl
 | _::_,_::_,h=>by simp[fitS_len h.2]
 | [],_::_,h=>h.elim
 | _::_,[],h=>h.elim
def av(h:FitS (T::s) l):∃v r,l=v::r/\Fit T v/\FitS s r:=by
 cases l with
 | nil=>exact h.elim
 | cons v r=>exact⟨v,r,rfl,h.1,h.2⟩
def fitS_app:∀{a b:aw}{x y:ao},FitS a x->FitS b y->FitS (a++b) (x++y)
 | [],_,[],_,_,h=>h
 | _::_,_,_::_,_,h,k=>⟨h.1,fitS_app h.2 k⟩
 | [],_,_::_,_,h,_=>h.elim
 | _::_,_,[],_,h,_=>h.elim
def fitS_get:∀{s:aw}{l:ao},FitS s l->∀i (h:i<s.length),∃v,l[i]?=some v/\Fit s[i] v
 | [],[],_,_,h=>by simp at h
 | _::_,v::_,h,0,_=>⟨v,rfl,h.1⟩
 | _::_,_::_,h,i+1,a=>fitS_get h.2 i (by simpa using a)
 | [],_::_,h,_,_=>h.elim
 | _::_,[],h,_,_=>h.elim
def fitS_take:∀{s:aw}{l:ao},FitS s l->∀i,FitS (s.take i) (l.take i)
 | [],[],_,i=>by simp[FitS]
 | _::_,_::_,h,0=>trivial
 | _::_,_::_,h,i+1=>⟨h.1,fitS_take h.2 i⟩
 | [],_::_,h,_=>h.elim
 | _::_,[],h,_=>h.elim
def fitS_drop:∀{s:aw}{l:ao},FitS s l->∀i,FitS (s.drop i) (l.drop i)
 | [],[],_,i=>by simp[FitS]
 | _::_,_::_,h,0=>h
 | _::_,_::_,h,i+1=>fitS_drop h.2 i
 | [],_::_,h,_=>h.elim
 | _::_,[],h,_=>h.elim
def fitS_mem:∀{s:aw}{l:ao},FitS s l->∀v∈l,∃T∈s,Fit T v
 | _::_,_::_,h,v,a=>by
  rcases kl.1 a with rfl|a
  .exact⟨_,oe,h.1⟩
  .have⟨T,b,c⟩:=fitS_mem h.2 v a;exact⟨T,by simp[b],c⟩
 | [],[],_,_,a=>by simp at a
 | [],_::_,h,_,_=>h.elim
 | _::_,[],h,_,_=>h.elim
def uf{T:Ty} : ∀{l:ao},FitS (List.replicate l.length T) l ↔ ∀v∈l,Fit T v
 | []=>by simp[FitS]
 | v::l=>by have a:=uf (T:=T) (l:=l);simp only[js,List.replicate_succ,FitS,a,kl,forall_eq_or_imp]
mutual
def sameT_eq:∀(a b:Ty),sameT a b->a=b
 | .nd t x,.nd u y,h=>by simp only[sameT,qt,jt]at h;rw[h.1,sameTs_eq x y h.2]
def sameTs_eq:∀(a b:aw),sameTs a b->a=b
 | [],[],_=>rfl
 | x::a,y::b,h=>by simp only[sameTs,qt]at h;rw[sameT_eq x y h.1,sameTs_eq a b h.2]
 | [],_::_,h=>by simp[sameTs]at h
 | _::_,[],h=>by simp[sameTs]at h
end
def tO(h:ai T):(1<=T.t/\T.t<=15)/\(T.args.length:Int)=bT T.t:=by have⟨t,a⟩:=T;have:=(dE h).1;simp only[bf,qt,jt,jH]at this;exact⟨this.1.2.1,this.1.2.2⟩
def uo(h:ai T)(e:T.t=11\/T.t=12\/T.t=13\/T.t=14):∃A B,T.args=[A,B]/\ai A/\ai B:=by
 have a:=(tO h).2;have c:=kd.1 (gX h);have d:bT T.t=2:=by unfold bT;rw[oa,oc]
 rw[d]at a
 match b:T.args with
 | [A,B]=>rw[b]at c;exact⟨A,B,rfl,c A oe,c B oe⟩
 | []=>rw[b]at a;simp at a
 | [_]=>rw[b]at a;simp at a
 | _::_::_::_=>rw[b]at a;simp at a;omega
def xM(h:ai T)(e:T.t=9\/T.t=10\/T.t=15):∃A,T.args=[A]/\ai A:=by
 have a:=(tO h).2;have c:=kd.1 (gX h);have d:bT T.t=1:=by unfold bT;rw[oc]
 rw[d]at a
 match b:T.args with
 | [A]=>rw[b]at c;exact⟨A,rfl,c A oe⟩
 | []=>rw[b]at a;simp at a
 | _::_::_=>rw[b]at a;simp at a;omega
def yU(h:ai T)(c:T.t<=8):T.args=[]:=by
 have a:=(tO h).2;have b:bT T.t=0:=Xs
 rw[b]at a;exact jz od
def Sd{l:aw}{i:Nat}(h:i<l.length):aJ l i∈l:=by unfold aJ;rw[qu h];exact yy h
def Df(c:ai T)(d:eX T v)(h:bS T v=some ts):ts.all ai:=by
 have i:=gX c;have n:=tO c;unfold bS at h;simp only at h;rw[kd]at i|-
 by_cases g:T.t=8
 .rw[if_pos g]at h;split at h
  .simp only[qq]at h;subst h;have a:oneGood v.types:=by
    simp only[eX,qt]at d;have:=d.1.2;unfold eZ at this;rw[if_pos g]at this;exact this
   match v.types,a with
   | [u],a=>intro x b;simp only[qv]at b;subst b;exact a
   | [],a=>simp[oneGood]at a
   | _::_::_,a=>simp[oneGood]at a
  .cases h
 rw[if_neg g]at h;split at h
 .simp only[qq]at h;subst h;simp
 split at h
 .rename_i j;have⟨A,l,m⟩:=xM c od;split at h
  .simp only[qq]at h;subst h;intro x b;rw[List.mem_replicate]at b;rw[b.2,l];exact m
  .cases h
 split at h
 .rename_i f;split at h
  .simp only[qq]at h;subst h;intro x b;rw[List.mem_replicate]at b;rw[b.2];exact Kc c f
  .cases h
 split at h
 .rename_i k;split at h
  .simp only[qq]at h;subst h;intro x b;simp only[qv]at b;subst b;refine i _ (Sd ?_);have⟨A,B,e,_⟩:=uo c od;simp only[eX,qt]at d;have a:=d.1.1.1.1.2;unfold bQ at a;rw[oc]at a;simp only[jt]at a;rw[e];simp only[js,qa1];omega
  .cases h
 split at h
 .split at h
  .simp only[qq]at h;subst h;simp
  .cases h
 split at h
 .simp only[qq]at h;subst h;exact i
 .cases h
def fitS_iff:∀(s:aw) (l:ao),s.all ai->(FitS s l ↔ hasVs l s/\lamsFs l)
 | [],[],_=>by simp[FitS,hasVs,lamsFs]
 | T::s,v::l,h=>by
  simp only[xj,qt]at h;have e:=fitS_iff s l h.2;simp only[FitS,hasVs,lamsFs,qt,e,Fit,qC,pY,h.1,true_and];constructor
  .rintro⟨⟨a,b⟩,c,d⟩;exact⟨⟨a,c⟩,b,d⟩
  .rintro⟨⟨a,c⟩,b,d⟩;exact⟨⟨a,b⟩,c,d⟩
 | [],_::_,_=>by simp[FitS,hasVs]
 | _::_,[],_=>by simp[FitS,hasVs]
def iO(h:Fit T v):ai T/\eX T v/\(∃ts,bS T v=some ts/\FitS ts v.args)/\(T.t=13->risesF v.args)/\(v.k=14->jG v):=by
 unfold Fit qC pY at h;simp only[qt]at h;have⟨⟨j,b⟩,e⟩:=h
 cases v with
 | mk k n a s args c d =>
 rw[hasV]at b;simp only[qt]at b;rw[lamsF]at e;simp only[qt,qe2,qg1,qe1]at e
 cases i:bS T (.mk k n a s args c d)with
 | none=>rw[i]at b;simp at b
 | some ts =>
  rw[i]at b;refine⟨j,b.1.1,⟨ts,rfl,(fitS_iff _ _ (Df j b.1.1 i)).2 ⟨b.1.2,e.2⟩⟩,λf=>?_,λg=>?_⟩
  .have:=b.2;simp only[f,decide_true,Bool.not_true,jd3]at this;exact this
  .rcases e.1 with h|h
   .exact absurd g h
   .exact h
def mY(j:ai T)(i:eX T v)(g:bS T v=some ts)(l:FitS ts v.args)(b:T.t=13->risesF v.args)(c:v.k=14->jG v):Fit T v:=by
 have d:=(fitS_iff _ _ (Df j i g)).1 l;unfold Fit qC pY
 cases v with
 | mk k n a s args e f =>
 rw[hasV,lamsF,g,j,i];simp only[Va.args]at d b;simp only[d.1,d.2,qa7,ka1,qt,qe2,qg1,qe1];refine⟨?_,?_⟩
 .by_cases h:T.t=13
  .exact .inr (b h)
  .exact .inl h
 .by_cases h:k=14
  .exact .inr (c h)
  .exact .inl h
def je(h:Fit T v):ai T:=(iO h).1
def pM(h:Fit T v):v.k=T.t:=by have:=(iO h).2.1;simp only[eX,qt,jt]at this;exact this.1.1.1.1.1
def Gx(h:Fit T v):bQ T.t v.n:=by have:=(iO h).2.1;simp only[eX,qt,jt]at this;exact this.1.1.1.1.2
def uX(h:Fit T v)(c:T.t=11):∃A B x y,T.args=[A,B]/\v.args=[x,y]/\Fit A x/\Fit B y:=by
 have⟨i,k,⟨ts,b,a⟩,_⟩:=iO h;have⟨A,B,e,_⟩:=uo i (.inl c);unfold bS at b;simp only[c,e]at b;simp at b;obtain⟨l,rfl⟩:=b;have⟨x,r,d,f,a⟩:=av a;obtain⟨y,j,rfl,g,a⟩:=av a
 cases j with
 | nil=>exact⟨A,B,x,y,e,d,f,g⟩
 | cons _ _=>exact a.elim
def Xj(h:Fit T v)(f:T.t=12):∃A B x,T.args=[A,B]/\v.args=[x]/\(v.n=0/\Fit A x\/v.n=1/\Fit B x):=by
 have⟨i,j,⟨ts,b,d⟩,_⟩:=iO h;have a:=Gx h;have⟨A,B,e,_⟩:=uo i (.inr (.inl f));unfold bS at b;simp only[f,e]at b;simp at b;obtain⟨k,rfl⟩:=b;have⟨x,r,g,c,d⟩:=av d;unfold bQ at a;rw[if_pos (.inr f)]at a;simp only[jt]at a
 cases r with
 | nil =>
  refine⟨A,B,x,e,g,?_⟩;rcases a with a|a<;>rw[a]at c
  .exact .inl ⟨a,c⟩
  .exact .inr ⟨a,c⟩
 | cons _ _=>exact d.elim
def EW(h:Fit T v)(c:T.t=9):∃A,T.args=[A]/\(v.args=[]\/∃x,v.args=[x]/\Fit A x):=by
 have⟨g,i,⟨ts,a,b⟩,_⟩:=iO h;have⟨A,e,_⟩:=xM g (.inl c);refine⟨A,e,?_⟩;unfold bS at a;simp only[c,e]at a;simp at a;split at a
 .left;assumption
 .simp at a;obtain⟨j,rfl⟩:=a;have⟨x,r,d,f,b⟩:=av b
  cases r with
  | nil=>exact .inr ⟨x,d,f⟩
  | cons _ _=>exact b.elim
def xG(h:Fit T v)(b:T.t=10):∃A,T.args=[A]/\v.args.length<=24/\∀x∈v.args,Fit A x:=by have⟨c,g,⟨ts,a,f⟩,_⟩:=iO h;have⟨A,e,_⟩:=xM c (.inr (.inl b));refine⟨A,e,?_⟩;unfold bS at a;simp only[b,e]at a;simp at a;obtain⟨d,rfl⟩:=a;exact⟨d,uf.1 f⟩
def Am(h:Fit T v)(b:T.t=13):∃A B,T.args=[A,B]/\v.args.length<=24/\(∀x∈v.args,Fit (.nd 11 [A,B]) x)/\risesF v.args/\oF A:=by have⟨c,j,⟨ts,a,i⟩,f,_⟩:=iO h;have⟨A,B,e,_⟩:=uo c (.inr (.inr (.inl b)));refine⟨A,B,e,?_⟩;have d:=(dE c).2.2;have⟨t,args⟩:=T;simp only[Ty.t,Ty.args]at b e f;subst b;subst e;simp only[keyedF,uZ,headComp,qt]at d;unfold bS at a;simp[Ty.t,Ty.args]at a;obtain⟨g,rfl⟩:=a;exact⟨g,uf.1 i,f rfl,by simpa using d.1⟩
def xH(h:Fit T v)(d:T.t=15):∃A x,T.args=[A]/\v.args=[x]/\Fit A x/\lY v.a/\0<v.n/\v.n<=1152921504606846976:=by
 have⟨k,f,⟨ts,b,c⟩,_⟩:=iO h;have g:=Gx h;have⟨A,e,_⟩:=xM k (.inr (.inr d));unfold bS at b;simp only[d,e]at b;simp at b;obtain⟨l,rfl⟩:=b;have⟨x,r,i,j,c⟩:=av c;unfold bQ at g;simp[d,gN]at g;simp only[eX,qt,qe2,jt]at f;have b:lY v.a:=by
  rcases f.1.1.1.2 with h|h
  .rw[h];decide
  .exact h.2
 cases r with
 | nil=>exact⟨A,x,e,i,j,b,od,od⟩
 | cons _ _=>exact c.elim
def Lm(h:Fit T v)(c:T.t=14):∃A B,T.args=[A,B]/\v.types=[A,B]/\v.args=[]/\jG v:=by have⟨f,d,⟨ts,a,j⟩,_,g⟩:=iO h;have⟨A,B,e,_⟩:=uo f (.inr (.inr (.inr c)));have i:=pM h;simp only[eX,qt]at d;have b:=d.1.2;unfold eZ at b;rw[oa,if_pos c]at b;unfold bS at a;simp only[c,e]at a;simp at a;exact⟨A,B,e,by rw[sameTs_eq _ _ b,e],a.1,g od⟩
def jd:(⟨#[]⟩:bp).size=0:=rfl
def ja(hk:1<=k/\k<=7)(hn:bQ k n):Fit (.nd k []) (aW k n):=by
 have b:ai (.nd k []):=by
  have c:bT k=0:=Xs
  simp[ai,bf,ig,jH,c,keyedF,keyedFs,uZ,headComp,Ty.size,tysizes];omega
 refine mY (ts:=[]) b ?_ ?_ trivial (λh=>?_) (λh=>?_)
 .simp[eX,aW,Va.k,Va.n,Va.a,Va.s,Va.types,Va.code,Ty.t,hn,eZ,jd];rw[oa];exact .inl od
 .unfold bS;simp only[aW,Va.args,Va.types,Ty.t,Ty.args,qa1];rw[oa,oa,oa,oa,oa,oa];rfl
 .simp[Ty.t]at h;omega
 .simp[aW,Va.k]at h;omega
def Gy{s:bp}(b:s.size<=200):Fit (.nd 6 []) (di s):=by refine mY (ts:=[]) ot ?_ rfl trivial (λh=>by simp[Ty.t]at h) (λh=>by simp[di,Va.k]at h);simp[eX,di,Va.k,Va.n,Va.a,Va.s,Va.types,Va.code,Ty.t,bQ,eZ,b]
def lK(b:ai (.nd 9 [A]))(h:Fit A v):Fit (.nd 9 [A]) (aV v):=by refine mY (ts:=[A]) b ?_ rfl ⟨h,trivial⟩ (λh=>by simp[Ty.t]at h) (λh=>by simp[aV,mkV,Va.k]at h);simp[eX,aV,mkV,Va.k,Va.n,Va.a,Va.s,Va.types,Va.code,Ty.t,bQ,eZ,jd]
def lJ(b:ai (.nd 9 [A])):Fit (.nd 9 [A]) noneV:=by refine mY (ts:=[]) b ?_ rfl trivial (λh=>by simp[Ty.t]at h) (λh=>by simp[noneV,mkV,Va.k]at h);simp[eX,noneV,mkV,Va.k,Va.n,Va.a,Va.s,Va.types,Va.code,Ty.t,bQ,eZ,jd]
def qB{a b:Va}(d:ai (.nd 11 [A,B]))(c:Fit A a)(hb:Fit B b):Fit (.nd 11 [A,B]) (aY a b):=by refine mY (ts:=[A,B]) d ?_ rfl ⟨c,hb,trivial⟩ (λh=>by simp[Ty.t]at h) (λh=>by simp[aY,mkV,Va.k]at h);simp[eX,aY,mkV,Va.k,Va.n,Va.a,Va.s,Va.types,Va.code,Ty.t,bQ,eZ,jd]
def Qn{a:Va}(c:ai (.nd 12 [A,B]))(b:Fit A a):Fit (.nd 12 [A,B]) (nE 0 a):=by refine mY (ts:=[A]) c ?_ rfl ⟨b,trivial⟩ (λh=>by simp[Ty.t]at h) (λh=>by simp[nE,Va.k]at h);simp[eX,nE,Va.k,Va.n,Va.a,Va.s,Va.types,Va.code,Ty.t,bQ,eZ,jd]
def Np{a:Va}(c:ai (.nd 12 [A,B]))(b:Fit B a):Fit (.nd 12 [A,B]) (nE 1 a):=by refine mY (ts:=[B]) c ?_ rfl ⟨b,trivial⟩ (λh=>by simp[Ty.t]at h) (λh=>by simp[nE,Va.k]at h);simp[eX,nE,Va.k,Va.n,Va.a,Va.s,Va.types,Va.code,Ty.t,bQ,eZ,jd]
def EU(b:ai (.nd 10 [A]))(c:l.length<=24)(h:∀x∈l,Fit A x):Fit (.nd 10 [A]) (mkV 10 l):=by
 refine mY (ts:=List.replicate l.length A) b ?_ ?_ (uf.2 h) (λh=>by simp[Ty.t]at h) (λh=>by simp[mkV,Va.k]at h)
 .simp[eX,mkV,Va.k,Va.n,Va.a,Va.s,Va.types,Va.code,Ty.t,bQ,eZ,jd]
 .simp[bS,mkV,Ty.t,Ty.args,Va.args,c,aJ]
def Lr(b:ai (.nd 13 [A,B]))(c:l.length<=24)(h:∀x∈l,Fit (.nd 11 [A,B]) x)(d:risesF l):Fit (.nd 13 [A,B]) (mkV 13 l):=by
 refine mY (ts:=List.replicate l.length (.nd 11 [A,B])) b ?_ ?_ (uf.2 h) (λ_=>d) (λh=>by simp[mkV,Va.k]at h)
 .simp[eX,mkV,Va.k,Va.n,Va.a,Va.s,Va.types,Va.code,Ty.t,bQ,eZ,jd]
 .simp[bS,mkV,Ty.t,Ty.args,Va.args,c]
def Ao(c:ai (.nd 15 [A]))(b:lY a)(hn:0<n/\n<=1152921504606846976)(h:Fit A v):Fit (.nd 15 [A]) (aM a n v):=by refine mY (ts:=[A]) c ?_ rfl ⟨h,trivial⟩ (λh=>by simp[Ty.t]at h) (λh=>by simp[aM,Va.k]at h);simp[eX,aM,Va.k,Va.n,Va.a,Va.s,Va.types,Va.code,Ty.t,bQ,eZ,jd,b,gN];exact⟨xb ⟨od,od⟩,xb od⟩
def Ub(b:lY a)(hn:gN n)(h:Fit A v):Fit (.nd 8 []) (.mk 8 n a ⟨#[]⟩ [v] [A] []):=by refine mY (ts:=[A]) ot ?_ rfl ⟨h,trivial⟩ (λh=>by simp[Ty.t]at h) (λh=>by simp[Va.k]at h);simp[eX,Va.k,Va.n,Va.a,Va.s,Va.types,Va.code,Ty.t,bQ,eZ,jd,b,hn,oneGood,je h]
def Ua{c:aE}(b:ai (.nd 14 [A,B]))(h:jG (.mk 14 0 0 ⟨#[]⟩ [] [A,B] c)):Fit (.nd 14 [A,B]) (.mk 14 0 0 ⟨#[]⟩ [] [A,B] c):=by refine mY (ts:=[]) b ?_ rfl trivial (λh=>by simp[Ty.t]at h) (λ_=>h);simp[eX,Va.k,Va.n,Va.a,Va.s,Va.types,Va.code,Ty.t,Ty.args,bQ,eZ,jd,sameTs_refl]
def fZ(h:standF s [k]):∃T r,s=T::r/\(k≠0->T.t=k):=by
 cases s with
 | nil=>simp[standF]at h
 | cons T r=>simp[standF]at h;exact⟨T,r,rfl,λa=>od⟩
def lT{l:Int}(h:standF s [k,l]):∃T U r,s=T::U::r/\(k≠0->T.t=k)/\(l≠0->U.t=l):=by
 cases s with
 | nil=>simp[standF]at h
 | cons T s =>
  cases s with
  | nil=>simp[standF]at h
  | cons U r=>simp[standF]at h;exact⟨T,U,r,rfl,λhk=>od,λhk=>od⟩
def Kt{l m:Int}(h:standF s [k,l,m]):∃T U V r,s=T::U::V::r/\(k≠0->T.t=k)/\(l≠0->U.t=l)/\(m≠0->V.t=m):=by
 cases s with
 | nil=>simp[standF]at h
 | cons T s =>
  cases s with
  | nil=>simp[standF]at h
  | cons U s =>
   cases s with
   | nil=>simp[standF]at h
   | cons V r=>simp[standF]at h;exact⟨T,U,V,r,rfl,λhk=>od,λhk=>od,λhk=>od⟩
def ED (k:Int):Prop:=0<=k/\k<=1152921504606846976
inductive Does (m:Ma) (s:List Ty):Out->Prop
 | put (rest vals:List Va) (k:Int):(∀y∈rest,y∈m.st)->FitS s (vals++rest)->ED k->m.aO<=k->vsizes vals<=20000000->Does m s (bz { m with st:=rest,aO:=k } vals)
 | go (rest:List Va):(∀y∈rest,y∈m.st)->FitS s rest->Does m s (.go { m with st:=rest })
 | over (m':Ma):m'.paid=m.paid->Does m s (.no 11 m')
 | big (m':Ma):m'.paid=m.paid->Does m s (.no 13 m')
def aU{o:Out}(rest a:ao)(b:∀y∈rest,y∈m.st)(hm:ED m.aO)(c:vsizes a<=20000000)(e:o=bz { m with st:=rest } a)(h:FitS s (a++rest)):Does m s o:=by subst e;exact .put rest a m.aO b h hm (qf0 _) c
def Sm (l:ao):Prop:=∀v∈l,v.size<=6000000
def Sm.hd(h:Sm (v::l)):v.size<=6000000:=h v oe
def Sm.tl(h:Sm (v::l)):Sm l:=λx a=>h x (by simp[a])
class Nr where
 q:Va->Prop
 ax:∀v,q v->v.k≠11->∀x∈v.args,q x
 sm:∀T v,Fit T v->v.size<=6000000->yN v=false->q v
def Sq [Nr] (l:ao):Prop:=∀v∈l,v.size<=6000000/\Nr.q v
def Sq.sm[Nr](h:Sq l):Sm l:=λv a=>(h v a).1
def Sq.h1[Nr](h:Sq (v::l)):v.size<=6000000/\Nr.q v:=h v oe
def Sq.hd[Nr](h:Sq (v::l)):v.size<=6000000:=h.h1.1
def Sq.tl[Nr](h:Sq (v::l)):Sq l:=λx a=>h x (by simp[a])
def jb(v:Va):vsizes v.args+tysizes v.types+sizes v.code+1=v.size:=(eP v).symm
def bN{t:aw}(h:bB s t =.ok f x):f=false/\x=t++s:=by unfold bB at h;injection h with a b;exact⟨a.symm,b.symm⟩
def fo(h:(T::s).all ai):ai T:=by simp only[xj,qt]at h;exact h.1
def Ep{l:aw}{i:Nat}(h:i<l.length):aJ l i=l[i]:=by unfold aJ;rw[qu h];rfl
def QM{n:Tr}(A:n.p0=i.p)(hi:i.p=41\/i.p=43\/i.p=44->i.n=(dK n 0).n0/\0<=i.n)(hk:i.p=40\/i.p=41\/i.p=42\/i.p=43\/i.p=44)
 (h:dG i s =.ok f x) (hm:ED m.aO) (d:FitS s m.st) (hZ:Sm m.st):f=false/\Does m x (p9 n m):=by
 unfold dG at h;unfold p9;rw[A];split at h
 .rename_i c;obtain⟨T,r,rfl,_⟩:=fZ c.2;obtain⟨rfl,rfl⟩:=bN h;have⟨v,l,e,_,g⟩:=av d;rw[e]at hZ;rw[if_pos c.1,e];exact⟨rfl,.go l (λy b=>by simp[e,b]) g⟩
 split at h
 .rename_i c;obtain⟨rfl,rfl⟩:=bN h;have⟨j,o⟩:=hi (.inl c.1);have a:i.n.toNat - 1<s.length:=by omega
  have⟨v,k,hF⟩:=fitS_get d _ a;rw[Ep a,oa,if_pos c.1,<-j,if_pos c.2.1,k];exact⟨rfl,aU m.st [v] (λ_ h=>h) hm (by have:=hZ v (ka k);simp only[vsizes];omega) rfl ⟨hF,d⟩⟩
 split at h
 .rename_i c;obtain⟨T,U,r,rfl,_⟩:=lT c.2;obtain⟨rfl,rfl⟩:=bN h;have⟨v,l,e,q,g⟩:=av d;rw[e]at hZ;obtain⟨u,l,rfl,w,g⟩:=av g;rw[oa,oa,if_pos c.1,e];exact⟨rfl,aU l [u,v] (λy b=>by simp[e,b]) hm (by have:=hZ.hd;have:=hZ.tl.hd;simp only[vsizes];omega) rfl ⟨w,q,g⟩⟩
 split at h
 .rename_i c;obtain⟨rfl,rfl⟩:=bN h;have⟨j,o⟩:=hi (.inr (.inl c.1));have a:i.n.toNat<s.length:=by omega
  have⟨v,k,hF⟩:=fitS_get d _ a;rw[Ep a,oa,oa,oa,if_pos c.1,<-j,if_pos o,k];refine⟨rfl,.go _ (λy b=>?_) ⟨hF,?_⟩⟩
  .rcases kl.1 b with rfl|b
   .exact ka k
   .exact List.mem_of_mem_eraseIdx b
  rw[jg5];show FitS (s.take i.n.toNat++s.drop (i.n.toNat+1)) _;exact fitS_app (fitS_take d _) (fitS_drop d _)
 split at h
 .rename_i c;obtain⟨rfl,rfl⟩:=bN h;have⟨j,o⟩:=hi (.inr (.inr c.1))
  match s,d with
  | [],d=>simp at c;omega
  | T::s,d =>
   have⟨v,l,e,q,g⟩:=av d;rw[e]at hZ;have t:=fitS_len g;have a:=c.2;simp only[js]at a;rw[oa,oa,oa,oa,e,<-j];dsimp only;rw[if_pos ⟨o,od⟩];refine⟨rfl,.go _ (λy b=>?_) ?_⟩
   .rw[e];rcases ki.1 b with b|b
    .exact jf7 _ (qe6 b)
    .rcases kl.1 b with rfl|b
     .simp
     .exact jf7 _ (qh2 b)
   have z:=fitS_app (fitS_take g i.n.toNat) (show FitS (T::s.drop i.n.toNat) (v::l.drop i.n.toNat) from ⟨q,fitS_drop g _⟩);simpa using z
 .cases h
def PZ(hi:i.p=50\/i.p=51\/i.p=54->∃U,i.types=[U])(h:bO i s =.ok f x)(z:x.all ai)(hm:ED m.aO)(n:FitS s m.st)(d:Sm m.st):f=false/\Does m x (l8 i.p m):=by
 unfold bO at h;unfold l8;split at h
 .rename_i c;obtain⟨T,U,r,rfl,_⟩:=lT c.2;obtain⟨rfl,rfl⟩:=bN h;have⟨v,l,e,j,g⟩:=av n;rw[e]at d;obtain⟨u,l,rfl,C,g⟩:=av g;rw[oa,e];dsimp only;rw[if_pos c.1];exact⟨rfl,aU l [aY v u] (λy k=>by simp[e,k]) hm (by have:=d.hd;have:=d.tl.hd;simp only[aY,mkV,Va.size,vsizes,tysizes,sizes];omega) rfl ⟨qB (fo z) j C,g⟩⟩
 split at h
 .rename_i c;obtain⟨T,r,rfl,o⟩:=fZ c.2;obtain⟨rfl,rfl⟩:=bN h;have⟨v,l,e,j,g⟩:=av n;rw[e]at d;have⟨A,B,a,b,w,t,g1,g2⟩:=uX j (o ot);rw[oa,e];dsimp only;rw[oa,oa,oa,oa,oa,oa];refine⟨rfl,aU l v.args (λy k=>by simp[e,k]) hm (by have:=d.hd;have:=jb v;omega) rfl ?_⟩;rw[t];show FitS (T.args++r) _;rw[w];exact⟨g1,g2,g⟩
 split at h
 .rename_i c;obtain⟨T,r,rfl,o⟩:=fZ c.2;obtain⟨rfl,rfl⟩:=bN h;have⟨v,l,e,j,g⟩:=av n;rw[e]at d;have⟨A,B,a,b,w,t,g1,g2⟩:=uX j (o ot);rw[oa,e];dsimp only;rw[oa,if_pos c.1,t];refine⟨rfl,aU l [a] (λy k=>by simp[e,k]) hm (by have:=d.hd;have q:=jb v;rw[t]at q;simp only[vsizes]at q|-;omega) rfl ⟨?_,g⟩⟩;show Fit (aJ T.args 0) a;rw[w];exact g1
 split at h
 .rename_i c;obtain⟨T,r,rfl,o⟩:=fZ c.2;obtain⟨rfl,rfl⟩:=bN h;have⟨v,l,e,j,g⟩:=av n;rw[e]at d;have⟨A,B,a,b,w,t,g1,g2⟩:=uX j (o ot);rw[oa,e];dsimp only;rw[oa,oa,if_pos c.1,t];refine⟨rfl,aU l [b] (λy k=>by simp[e,k]) hm (by have:=d.hd;have q:=jb v;rw[t]at q;simp only[vsizes]at q|-;omega) rfl ⟨?_,g⟩⟩;show Fit (aJ T.args 1) b;rw[w];exact g2
 split at h
 .rename_i c;obtain⟨T,r,rfl,o⟩:=fZ c.2;obtain⟨rfl,rfl⟩:=bN h;have⟨v,l,e,j,g⟩:=av n;rw[e]at d;have⟨U,D⟩:=hi (.inl c.1);rw[oa,e];dsimp only;rw[oa,oa,oa,if_pos c.1];exact⟨rfl,aU l [nE 0 v] (λy k=>by simp[e,k]) hm (by have:=d.hd;simp only[nE,Va.size,vsizes,tysizes,sizes];omega) rfl ⟨Qn (fo z) j,g⟩⟩
 split at h
 .rename_i c;obtain⟨T,r,rfl,o⟩:=fZ c.2;obtain⟨rfl,rfl⟩:=bN h;have⟨v,l,e,j,g⟩:=av n;rw[e]at d;rw[oa,e];dsimp only;rw[oa,oa,oa,oa,if_pos c.1];exact⟨rfl,aU l [nE 1 v] (λy k=>by simp[e,k]) hm (by have:=d.hd;simp only[nE,Va.size,vsizes,tysizes,sizes];omega) rfl ⟨Np (fo z) j,g⟩⟩
 split at h
 .rename_i c;obtain⟨T,r,rfl,o⟩:=fZ c.2;obtain⟨rfl,rfl⟩:=bN h;have⟨v,l,e,j,g⟩:=av n;rw[e]at d;rw[oa,e];dsimp only;rw[oa,oa,oa,oa,oa,if_pos c.1];exact⟨rfl,aU l [aV v] (λy k=>by simp[e,k]) hm (by have:=d.hd;simp only[mkV,aV,Va.size,vsizes,tysizes,sizes];omega) rfl ⟨lK (fo z) j,g⟩⟩
 split at h
 .rename_i c;obtain⟨rfl,rfl⟩:=bN h;rw[if_pos c];exact⟨rfl,aU m.st [noneV] (λ_ h=>h) hm oY rfl ⟨lJ (fo z),n⟩⟩
 .cases h
def VM (l:ao):Prop:=l.Pairwise λx y=>gT (fU x) (fU y)<0
def sj{x y z:Va}(h:gT x y<0)(k:gT y z<0):gT x z<0:=by
 have a:=Ho x y z od od;have : gT x z≠0:=λe=>by have:=(a.2.1 e).1;omega
 have:=a.1;omega
def rises_inc:∀(l:ao),risesF l ↔ VM l
 | []=>by simp[risesF,VM]
 | [x]=>by simp[risesF,VM]
 | x::y::l=>by
  have e:=rises_inc (y::l);rw[risesF,qt,jt,e];unfold VM;rw[List.pairwise_cons (a:=x)];constructor
  .rintro⟨b,c⟩;refine⟨λz d=>?_,c⟩;rcases kl.1 d with rfl|d
   .exact b
   .exact sj b ((List.pairwise_cons.1 c).1 z d)
  .rintro⟨b,c⟩;exact⟨b y oe,c⟩
def take_at(l:ao)(key:Va):l.take (j4 l key)=l.takeWhile λx=>decide (gT (fU x) key<0):=by
 unfold j4;generalize (λx=>decide (gT (fU x) key<0))=p
 induction l with
 | nil=>rfl
 | cons a l b =>
  rw[List.takeWhile_cons];split
  .simp[b]
  .simp
def drop_at(l:ao)(key:Va):l.drop (j4 l key)=l.dropWhile λx=>decide (gT (fU x) key<0):=by
 unfold j4;generalize (λx=>decide (gT (fU x) key<0))=p
 induction l with
 | nil=>rfl
 | cons a l b =>
  rw[List.takeWhile_cons,List.dropWhile_cons];split
  .simp[b]
  .simp
def Em{x:Va}(h:x∈l.take (j4 l key)):gT (fU x) key<0:=by rw[take_at]at h;have:=List.all_takeWhile (l:=l) (p:=λx=>decide (gT (fU x) key<0));rw[kd]at this;simpa using this x h
def PU{x:Va}(h:l[j4 l key]?=some x):¬gT (fU x) key<0:=by
 have a:(l.drop (j4 l key)).head?=some x:=by rw[List.head?_drop];exact h
 rw[drop_at]at a;have b:=List.head?_dropWhile_not (λx=>decide (gT (fU x) key<0)) l;rw[a]at b;simpa using b
def Vw(o:VM l)(hi:item.length<=1):VM (uO l key item):=by
 have r:∀y∈l.drop (if fJ l key then j4 l key+1 else j4 l key),gT key (fU y)<0:=by
  intro y b;rw[List.mem_iff_getElem?]at b;have⟨j,m⟩:=b;rw[qh6]at m;have a:j4 l key<l.length:=by have:=(qT.1 m).1;split at this<;>omega
  have k:=PU (qu a);have t:=Q9 (fU l[j4 l key]) key;have⟨g,f⟩:=qT.1 m;have i:=List.pairwise_iff_getElem.1 o
  by_cases c:fJ l key
  .have s:gT (fU l[j4 l key]) key=0:=by
    unfold fJ at c;rw[qu a]at c;simpa using c
   have d:=i (j4 l key) ((if fJ l key then j4 l key+1 else j4 l key)+j) a g (by rw[if_pos c];omega);rw[f]at d;have q:=Ho key (fU l[j4 l key]) (fU y) od od;have : gT key (fU y)≠0:=λe=>by have:=(q.2.1 e).2;omega
   have:=q.1;omega
  .have s:¬gT (fU l[j4 l key]) key=0:=by
    unfold fJ at c;rw[qu a]at c;simpa using c
   have p:gT key (fU l[j4 l key])<0:=od
   by_cases n:j=0
   .subst n;rw[<-f];simp only[c];exact p
   .have d:=i (j4 l key) ((if fJ l key then j4 l key+1 else j4 l key)+j) a g (by rw[if_neg c];omega);rw[f]at d;exact sj p d
 unfold uO VM;refine List.pairwise_append.2 ⟨o.sublist (List.take_sublist _ _),List.pairwise_append.2 ⟨?_,o.sublist (List.drop_sublist _ _),?_⟩,?_⟩
 .match item,hi with
  | [],_=>exact List.Pairwise.nil
  | [v],_=>simp
  | _::_::_,h=>simp at h
 .intro x k y b;rw[kB]at k;obtain⟨v,_,rfl⟩:=k;exact r y b
 .intro x k y b;have d:=Em k;rcases ki.1 b with b|b
  .rw[kB]at b;obtain⟨v,_,rfl⟩:=b;exact d
  .exact sj d (r y b)
def Vz{x:Va}(h:x∈uO l key item):x∈l\/∃v∈item,x=aY key v:=by
 unfold uO at h;rcases ki.1 h with h|h
 .exact .inl (qe6 h)
 .rcases ki.1 h with h|h
  .rw[kB]at h;obtain⟨v,a,rfl⟩:=h;exact .inr ⟨v,a,rfl⟩
  .exact .inl (qh2 h)
def Si(l:ao)(key:Va)(b:ao)(hi:b.length<=1):vsizes (uO l key b)<=vsizes l+key.size+vsizes b+1:=by
 unfold uO;have c:=kK (l.take (j4 l key)) (l.drop (j4 l key));rw[qc6]at c;have d:vsizes (l.drop (if fJ l key then j4 l key+1 else j4 l key))<=vsizes (l.drop (j4 l key)):=by
  split
  .rw[<-List.drop_drop];generalize l.drop (j4 l key)=r
   cases r with
   | nil=>simp
   | cons a r=>simp[vsizes]
  .exact jj _
 have e:vsizes (b.map (aY key))<=key.size+vsizes b+1:=by
  match b,hi with
  | [],_=>simp[vsizes]
  | [v],_=>simp[aY,mkV,Va.size,vsizes,tysizes,sizes]
  | _::_::_,h=>simp at h
 rw[kK,kK];omega
def J4{o:Out}(k:Int)(rest l:ao)(a:∀y∈rest,y∈m.st)(hm:ED m.aO)(e:o=jP { m with st:=rest } k l)(b:FitS s rest)(c:vsizes l<=19000000)(h:l.length<=24->Fit T (mkV k l)):Does m (T::s) o:=by
 subst e;unfold jP;split
 .exact .big _ rfl
 .exact aU rest [mkV k l] a hm (by simp only[mkV,Va.size,vsizes,tysizes,sizes];omega) rfl ⟨h od,b⟩
def Jz(hi:i.p=61->i.types.length=2)(h:aP i s =.ok f x)(S:x.all ai)(hm:ED m.aO)(J:FitS s m.st)(o:Sm m.st):f=false/\Does m x (fG i.p m):=by
 unfold aP at h;unfold fG;split at h
 .rename_i c;obtain⟨rfl,rfl⟩:=bN h;rw[if_pos c];exact⟨rfl,aU m.st [mkV 10 []] (λ_ h=>h) hm (by simp[mkV,Va.size,vsizes,tysizes,sizes]) rfl ⟨EU (fo S) oe oe,J⟩⟩
 split at h
 .rename_i c;obtain⟨T,U,r,rfl,_,I⟩:=lT c.2.1;obtain⟨rfl,rfl⟩:=bN h;have⟨v,l,e,n,j⟩:=av J;rw[e]at o;obtain⟨u,l,rfl,H,K⟩:=av j;have⟨A,D,hl,L⟩:=xG H (I ot);have k:=sameT_eq _ _ c.2.2;have⟨ut,ua⟩:=U;have M:=I ot;simp only[Ty.t,Ty.args]at M D;subst M;subst D;rw[oa,oa,e];dsimp only;rw[oa,if_pos c.1];refine⟨rfl,J4 10 l _ (λy d=>by simp[e,d]) hm rfl K (by have:=o.hd;have:=o.tl.hd;have:=jb u;simp only[vsizes];omega) λE=>EU (je H) E λy d=>?_⟩;rcases kl.1 d with rfl|d
  .have : T=A:=k;rw[<-this];exact n
  .exact L y d
 split at h
 .rename_i c;obtain⟨rfl,rfl⟩:=bN h;rw[oa,oa];obtain⟨T,r,rfl,k⟩:∃T r,s=T::r/\(T.t=6\/T.t=10\/T.t=13):=by
   rcases c.2 with c|c|c<;>have⟨T,r,e,h⟩:=fZ c
   .exact⟨T,r,e,.inl (h ot)⟩
   .exact⟨T,r,e,.inr (.inl (h ot))⟩
   .exact⟨T,r,e,.inr (.inr (h ot))⟩
  have⟨v,l,e,n,j⟩:=av J;rw[e]at o;rw[e];dsimp only;rw[if_pos c.1];refine⟨rfl,aU l [aW 4 _] (λy d=>by simp[e,d]) hm oT rfl ⟨ja ot ?_,j⟩⟩;have Q:=(iO n).2.1;have⟨ts,R,aa⟩:=(iO n).2.2.1;simp only[eX,qt,qe2,jt]at Q;have Y:v.s.size<=200:=by
   rcases Q.1.1.2 with h|h
   .omega
   .exact h.2
  have h3:v.args.length<=24:=by
   rcases k with k|k|k
   .have:=rE R;unfold bS at R;simp[k,yU (je n) od]at R;simp[R.1]
   .exact (xG n k).choose_spec.2.1
   .exact (Am n k).choose_spec.choose_spec.2.1
  simp[bQ,gN];omega
 split at h
 .rename_i c;obtain⟨rfl,rfl⟩:=bN h;rw[oa,if_pos c.1]
  match k:i.types,hi c.1 with
  | [A,B],_ =>
   rw[k]at S;exact⟨rfl,aU m.st [mkV 13 []] (λ_ h=>h) hm (by simp[mkV,Va.size,vsizes,tysizes,sizes]) rfl ⟨Lr (fo S) oe oe rfl,J⟩⟩
 split at h
 .rename_i c;obtain⟨T,U,r,rfl,_,I⟩:=lT c.2.1;obtain⟨rfl,rfl⟩:=bN h;have⟨v,l,e,n,j⟩:=av J;rw[e]at o;obtain⟨u,l,rfl,H,j⟩:=av j;have⟨A,B,D,hl,L,K,_⟩:=Am H (I ot);have O:ai (.nd 9 [B]):=by
   have:=fo S;rw[show aJ (T::U::r) 1=U from rfl,D]at this;exact this
  rw[oa,oa,e];dsimp only;rw[oa,oa,if_pos c.1,if_pos K];refine⟨rfl,?_⟩;show Does m (.nd 9 [aJ U.args 1]::r) _;rw[D];show Does m (.nd 9 [B]::r) _;split
  .rename_i F;have G:j4 u.args v<u.args.length:=by
    unfold fJ at F;split at F
    .rename_i y d;exact (qT.1 d).1
    .cases F
   have⟨_,_,a,b,q1,q2,_,q4⟩:=uX (L _ (yy G)) rfl;rw[qu G];dsimp only;rw[q2];simp only[Ty.args,qa5,and_true]at q1;obtain⟨rfl,rfl⟩:=q1;exact aU l [aV b] (λy d=>by simp[e,d]) hm (by have:=o.tl.hd;have:=jb u;have:=fO (yy G);have q:=jb u.args[j4 u.args v];rw[q2]at q;simp only[mkV,aV,Va.size,vsizes,tysizes,sizes]at q|-;omega) rfl ⟨lK O q4,j⟩
  .exact aU l [noneV] (λy d=>by simp[e,d]) hm oY rfl ⟨lJ O,j⟩
 split at h
 .rename_i c;obtain⟨T,U,V,r,rfl,_,I,Z⟩:=Kt c.2.1;obtain⟨rfl,rfl⟩:=bN h;have⟨v,l,e,n,j⟩:=av J;rw[e]at o;obtain⟨u,l,rfl,H,j⟩:=av j;obtain⟨w,l,rfl,W,X⟩:=av j;have⟨A,B,D,hl,L,K,hC⟩:=Am W (Z ot);have⟨C,e2,g⟩:=EW H (I ot);have⟨vt,va⟩:=V;have N:=Z ot;simp only[Ty.t,Ty.args]at N D;subst N;subst D;have Q:T=A:=sameT_eq _ _ c.2.2.1;have Y:C=B:=by
   have:=sameT_eq _ _ c.2.2.2;rw[show aJ (T::U :: .nd 13 [A,B]::r) 1=U from rfl,e2]at this;exact this
  subst Q;subst Y;rw[oa,oa,e];dsimp only;rw[oa,oa,oa,if_pos K];refine⟨rfl,J4 13 l _ (λy d=>by simp[e,d]) hm rfl X (by have:=o.hd;have:=o.tl.hd;have:=o.tl.tl.hd;have:=jb u;have:=jb w;have:=Si w.args v u.args (by rcases g with g|⟨q,g,_⟩<;>rw[g]<;>simp);omega) λE=>Lr (je W) E (λy d=>?_) ((rises_inc _).2 (Vw ((rises_inc _).1 K) ?_))⟩
  .rcases Vz d with d|⟨z,P,rfl⟩
   .exact L y d
   .refine qB (yV (je W)) n ?_;rcases g with g|⟨q,g,X⟩
    .rw[g]at P;simp at P
    .rw[g]at P;simp at P;subst P;exact X
  .rcases g with g|⟨q,g,_⟩<;>rw[g]<;>simp
 .cases h
def vC{x:Va}(h:jf T t=some x):pY T x/\x.size<=300:=by
 unfold jf at h;split at h
 .rename_i c;split at h
  .cases h
  .rename_i y b;split at h
   .rename_i a;cases h;exact⟨a,xo (readT_size _ _ _ b) (iV c.2).2⟩
   .cases h
 .cases h
def wQ{l:bw}{x:Va}(h:jw T l=some x):pY T x/\eB T/\x.size<=300:=by
 cases l with
 | nil=>cases h
 | cons b r =>
  rw[jw]at h;split at h
  .split at h
   .cases h
   .split at h
    .cases h
    .rename_i y a;split at h
     .rename_i c;cases h;exact⟨(vC a).1,c,(vC a).2⟩
     .cases h
  .cases h
def OE{x:Va}(h:pY T x)(a:eB T):(dR x).size<=301:=P9 (T:=T) (by unfold TR;rw[h,a];rfl)
def qd(h:Fit T v)(c:T.t=3\/T.t=4\/T.t=5):kE v.n/\(-1152921504606846976<=v.n/\v.n<=1152921504606846976)/\(T.t≠3->0<=v.n):=by
 have a:=Gx h;unfold bQ at a;rw[oa]at a
 by_cases b:T.t=3
 .rw[if_pos b]at a;refine⟨a,?_,λh=>absurd b h⟩;simpa[kE]using a
 .rw[if_neg b,oc]at a;simp only[gN,jt]at a;exact⟨by simp[kE];omega,od,λ_=>a.1⟩
def nO(hk:k=3\/k=4\/k=5)(h:-1152921504606846976<=n/\n<=1152921504606846976)(b:k≠3->0<=n):bQ k n:=by
 unfold bQ;rw[oa]
 by_cases a:k=3
 .rw[if_pos a];simpa[kE]using h
 .rw[if_neg a,oc];simp only[gN,jt];exact⟨b a,h.2⟩
def Ng{o:Out}(rest:ao)(b:∀y∈rest,y∈m.st)(hm:ED m.aO)(hk:k=3\/k=4\/k=5)(e:o=oV { m with st:=rest } k (kF n))(h0:k≠3->0<=n)(c:FitS s rest):Does m (.nd k []::s) o:=by
 subst e;unfold oV kF
 by_cases a:kE n
 .simp only[a,if_true];refine aU rest [aW k n] b hm oT rfl ⟨ja od (nO hk ?_ h0),c⟩;simpa[kE]using a
 .simp only[a];exact .over _ rfl
def TV(hb:b≠0)(e:-1152921504606846976<=a/\a<=1152921504606846976):-1152921504606846976<=a / b/\a / b<=1152921504606846976:=by
 have key:∀c:Int,0<c -> -1152921504606846976<=a / c/\a / c<=1152921504606846976:=by
  intro c d;constructor
  .rw[Int.le_ediv_iff_mul_le d];have : -1152921504606846976*c <= -1152921504606846976*1:=by
    have:=Int.mul_le_mul_of_nonneg_left (show 1<=c from d) (show (0:Int)<=1152921504606846976 by decide);omega
   omega
  .apply Int.ediv_le_of_le_mul d;have:=Int.mul_le_mul_of_nonneg_left (show 1<=c from d) (show (0:Int)<=1152921504606846976 by decide);omega
 by_cases h:0<b
 .exact key b h
 .have:=key (-b) od;rw[Int.ediv_neg]at this;omega
def Ki(h:bJ i s =.ok f x)(K:x.all ai)(hm:ED m.aO)(F:FitS s m.st)(D:Sm m.st):f=false/\Does m x (gL i.p m):=by
 unfold bJ at h;unfold gL;split at h
 .rename_i c;obtain⟨T,r,rfl,d⟩:=fZ c.2;obtain⟨rfl,rfl⟩:=bN h;have⟨v,l,e,w,j⟩:=av F;rw[e]at D;have⟨Q,G,_⟩:=qd w (.inl (d ot));rw[e];dsimp only;rw[if_pos c.1];unfold oV EJ;rw[if_pos Q,if_pos rfl];exact⟨rfl,aU l [aW 4 _] (λy g=>by simp[e,g]) hm oT rfl ⟨ja ot (nO (.inr (.inl rfl)) od od),j⟩⟩
 split at h
 .rename_i c;obtain⟨T,r,rfl,d⟩:=fZ c.2;obtain⟨rfl,rfl⟩:=bN h;have⟨v,l,e,w,j⟩:=av F;rw[e]at D;have⟨Q,G,_⟩:=qd w (.inl (d ot));rw[e];dsimp only;rw[oa,if_pos c.1];refine⟨rfl,aU l [_] (λy g=>by simp[e,g]) hm Kx rfl ⟨?_,j⟩⟩;split
  .exact lJ (fo K)
  .exact lK (fo K) (ja ot (nO (.inr (.inl rfl)) G od))
 split at h
 .rename_i c;obtain⟨T,r,rfl,d⟩:=fZ c.2;obtain⟨rfl,rfl⟩:=bN h;have⟨v,l,e,w,j⟩:=av F;rw[e]at D;have⟨Q,G,_⟩:=qd w (.inr (.inl (d ot)));rw[e];dsimp only;rw[oa,oa,if_pos c.1];exact⟨rfl,aU l [aW 3 _] (λy g=>by simp[e,g]) hm oT rfl ⟨ja ot (nO (.inl rfl) G od),j⟩⟩
 split at h
 .rename_i c;obtain⟨T,U,r,rfl,_⟩:=lT c.2;split at h
  .rename_i Z a;obtain⟨rfl,rfl⟩:=bN h;have⟨v,l,e,w,j⟩:=av F;rw[e]at D;obtain⟨u,l,rfl,R,j⟩:=av j;have P:=pM w;have S:=pM R;have a:eF i.p T.t U.t=some Z:=a;have d:(T.t=3\/T.t=4\/T.t=5)/\(U.t=3\/U.t=4\/U.t=5):=by
    unfold eF zC at a
    repeat' split at a
    all_goals first|omega|(cases a;done)|(rename_i A _ _ _;simp at A;omega)|(rename_i A _ _;simp at A;omega)|(rename_i A _;simp at A;omega)
   have⟨H,V,B⟩:=qd w d.1;have⟨I,b2,C⟩:=qd R d.2;rw[e];dsimp only;rw[oa,oa,oa];refine⟨rfl,?_⟩;show Does m (Z::r) _;have q:=fo K
   by_cases o:i.p=72
   .rw[if_pos o];unfold Gu;rw[if_pos ⟨H,I⟩,P,S];have z:Z=Jt (.nd (rH T.t U.t).1 []) (.nd (rH T.t U.t).2 [])/\((rH T.t U.t).1=3\/((rH T.t U.t).1=4\/(rH T.t U.t).1=5)/\T.t≠3/\U.t≠3)/\((rH T.t U.t).2=4\/(rH T.t U.t).2=5):=by
     rw[o]at a;rcases d with⟨t|t|t,u|u|u⟩<;>rw[t,u]at a|- <;> (cases a<;>exact⟨rfl,ot,ot⟩)
    obtain⟨rfl,q1,q2⟩:=z;split
    .exact aU l [noneV] (λy g=>by simp[e,g]) hm oY rfl ⟨lJ q,j⟩
    .rename_i E;have L:=fo (gX q);have N:=TV E V;have O:=Int.emod_nonneg v.n E;have aa:=Int.emod_lt v.n E;refine aU l [aV _] (λy g=>by simp[e,g]) hm (by simp[aY,mkV,aV,aW,Va.size,vsizes,tysizes,sizes]) rfl ⟨lK q (qB L (ja od (nO od N λh3=>?_)) (ja od (nO od od λ_=>O))),j⟩;have X:=B od;have Y:=C od;exact Int.ediv_nonneg X Y
   .rw[if_neg o]
    by_cases b:i.p=70/\v.k=5
    .rw[if_pos b];have z:Z =.nd 9 [.nd 5 []]/\U.t=5:=by
      have J:T.t=5:=od
      rw[b.1,J]at a;rcases d.2 with u|u|u<;>rw[u]at a|- <;> (cases a<;>exact⟨rfl,rfl⟩)
     obtain⟨rfl,hU⟩:=z;have ha:=B od;have E:=C od;have hr:(iU i.p v.n u.n).1=v.n - u.n:=by unfold iU Iu kF;rw[oa,if_pos b.1,if_pos ⟨H,I⟩,if_pos (by simp[kE];omega)]
     rw[hr];refine aU l [_] (λy g=>by simp[e,g]) hm Kx rfl ⟨?_,j⟩;split
     .exact lJ q
     .exact lK q (ja ot (nO (.inr (.inr rfl)) od od))
    .rw[if_neg b,P,S];have z:Z =.nd (mK i.p T.t U.t) []/\(mK i.p T.t U.t=3\/(mK i.p T.t U.t=4\/mK i.p T.t U.t=5)/\T.t≠3/\U.t≠3/\i.p≠70):=by
      rw[P]at b;rcases c.1 with p|p|p|p
      .rw[p]at a|-;rcases d with⟨t|t|t,u|u|u⟩<;>rw[t,u]at a|- <;> (cases a<;>exact⟨rfl,ot⟩)
      .have t5:T.t≠5:=λt=>b ⟨p,t⟩;rw[p]at a|-;rcases d with⟨t|t|t,u|u|u⟩<;>first|(exact absurd t t5)|(rw[t,u]at a|-;(cases a<;>exact⟨rfl,ot⟩))
      .rw[p]at a|-;rcases d with⟨t|t|t,u|u|u⟩<;>rw[t,u]at a|- <;> (cases a<;>exact⟨rfl,ot⟩)
      .exact absurd p o
     obtain⟨rfl,z⟩:=z;have M:∃n,iU i.p v.n u.n=kF n/\(mK i.p T.t U.t≠3->0<=n):=by
      unfold iU addN Iu mulN;simp only[H,I,and_self,if_true];rcases c.1 with p|p|p|p
      .rw[if_pos p];exact⟨_,rfl,λh=>by have:=B od;have:=C od;omega⟩
      .rw[oa,if_pos p];exact⟨_,rfl,λh=>od⟩
      .rw[oa,oa];exact⟨_,rfl,λh=>Int.mul_nonneg (B od) (C od)⟩
      .exact absurd p o
     have⟨n,M,W⟩:=M;rw[M];exact Ng l (λy g=>by simp[e,g]) hm od rfl W j
  .cases h
 .cases h
def yR(b:Bool):Fit (.nd 2 []) (aZ b):=by cases b<;>exact ja ot rfl
def TG(hk:i.p=73\/i.p=74\/i.p=75\/i.p=76\/i.p=77\/i.p=78\/i.p=79)(h:dI i s =.ok f x)(hm:ED m.aO)(g:FitS s m.st)(d:Sm m.st):f=false/\Does m x (xm i.p m):=by
 unfold dI at h;unfold xm;split at h
 .rename_i c;obtain⟨T,U,r,rfl,_⟩:=lT c.2.1;obtain⟨rfl,rfl⟩:=bN h;have⟨v,l,e,j,a⟩:=av g;rw[e]at d;obtain⟨u,l,rfl,k,a⟩:=av a;rw[e];dsimp only;rw[oa,oa,oa,oa,if_pos c.1];refine⟨rfl,aU l [aW 3 _] (λy b=>by simp[e,b]) hm oT rfl ⟨ja ot (nO (.inl rfl) ?_ od),a⟩⟩;rcases Hq v u with h|h|h<;>omega
 split at h
 .rename_i c;obtain⟨T,r,rfl,n⟩:=fZ c.2;obtain⟨rfl,rfl⟩:=bN h;have⟨v,l,e,j,a⟩:=av g;rw[e]at d;rw[e];dsimp only;refine⟨rfl,?_⟩;rcases c.1 with p|p|p<;>simp only[p,Int.reduceEq,↓reduceIte]<;>exact aU l [aZ _] (λy b=>by simp[e,b]) hm XS rfl ⟨yR _,a⟩
 split at h
 .rename_i c;obtain⟨T,r,rfl,n⟩:=fZ c.2;obtain⟨rfl,rfl⟩:=bN h;have⟨v,l,e,j,a⟩:=av g;rw[e]at d;rw[e];dsimp only;refine⟨rfl,?_⟩;simp only[c.1,Int.reduceEq,↓reduceIte];exact aU l [aZ _] (λy b=>by simp[e,b]) hm XS rfl ⟨yR _,a⟩
 split at h
 .rename_i c;obtain⟨T,U,r,rfl,_⟩:=lT c.2;obtain⟨rfl,rfl⟩:=bN h;have⟨v,l,e,j,a⟩:=av g;rw[e]at d;obtain⟨u,l,rfl,k,a⟩:=av a;rw[e];dsimp only;refine⟨rfl,?_⟩;rcases c.1 with p|p<;>simp only[p,Int.reduceEq,↓reduceIte]<;>exact aU l [aZ _] (λy b=>by simp[e,b]) hm XS rfl ⟨yR _,a⟩
 .cases h
mutual
def pack_lams:∀(v:Va) (T:Ty) (d:Nat),hasV v T->eB T->bf d T->lamsF v
 | .mk k n a s b c e,T,d,h,g,j=>by
  have l:=h;rw[hasV]at h;simp only[qt]at h
  cases f:bS T (.mk k n a s b c e)with
  | none=>rw[f]at h;simp at h
  | some ts =>
   rw[f]at h;have m:k=T.t:=by have:=h.1.1;simp only[eX,qt,jt]at this;exact this.1.1.1.1.1
   have i:=(oU g).1.2.1;rw[lamsF];simp only[qt,qe2,qg1,qe1];exact⟨.inl od,pack_lamsS b ts h.1.2 (Sc l g j f)⟩
def pack_lamsS:∀(l:ao) (ts:aw),hasVs l ts->(∀U∈ts,eB U/\∃d,bf d U)->lamsFs l
 | [],_,_,_=>rfl
 | v::l,[],h,_=>by simp[hasVs]at h
 | v::l,T::ts,h,a=>by simp only[hasVs,qt]at h;have⟨c,d,p2⟩:=a T oe;rw[lamsFs,pack_lams v T d h.1 c p2,pack_lamsS l ts h.2 λU b=>a U (by simp[b])];rfl
end
def Bg(h:pY T v)(b:eB T):Fit T v:=by have a:=h;unfold pY at a;simp only[qt]at a;unfold Fit qC;rw[h,pack_lams v T 1 a.2 b (dE a.1).1];rfl
def Bh(h:Fit T v):v.s.size<=200:=by
 have a:=(iO h).2.1;simp only[eX,qt,qe2,jt]at a;rcases a.1.1.2 with h|h
 .omega
 .exact h.2
def OC{n:Tr}(B:n.p0=i.p)(hi:i.p=45\/i.p=82->i.types=[kreadT (dK n 0)])(z:i.p=45->i.data=dK n 1)(hk:i.p=45\/i.p=80\/i.p=81\/i.p=82\/i.p=83)
 (h:cZ i s =.ok f x) (hg:x.all ai) (hm:ED m.aO) (hf:FitS s m.st) (hZ:Sm m.st):(f=false/\Does m x (jQ n m))\/∃v,jQ n m =.no 10 { m with said:=v }/\v.k≠0/\v.size<=6000000/\∃T,Fit T v:=by
 unfold cZ at h;unfold jQ;rw[B];split at h
 .rename_i c;obtain⟨rfl,rfl⟩:=bN h;rw[if_pos c.1];rw[hi (.inl c.1),z c.1]at c;rw[hi (.inl c.1)];have q:(jf (kreadT (dK n 0)) (dK n 1)).isSome:=c.2.2;have⟨v,j⟩:=qf4.1 q;rw[j];exact .inl ⟨rfl,aU m.st [v] (λ_ h=>h) hm (by have:=(vC j).2;simp only[vsizes];omega) rfl ⟨Bg (vC j).1 c.2.1,hf⟩⟩
 split at h
 .rename_i c;obtain⟨T,U,r,rfl,_⟩:=lT c.2;obtain⟨rfl,rfl⟩:=bN h;have⟨v,l,e,b,a⟩:=av hf;rw[e]at hZ;obtain⟨u,l,rfl,C,a⟩:=av a;rw[oa,e];dsimp only;rw[if_pos c.1];refine .inl ⟨rfl,?_⟩;split
  .exact .big _ rfl
  .exact aU l [di _] (λy d=>by simp[e,d]) hm (by simp[di,Va.size,vsizes,tysizes,sizes]) rfl ⟨Gy (by rw[ByteArray.size_append];omega),a⟩
 split at h
 .rename_i c;obtain⟨T,r,rfl,_⟩:=fZ c.2.1;obtain⟨rfl,rfl⟩:=bN h;have⟨v,l,e,b,a⟩:=av hf;rw[e]at hZ;have A:pY T v:=by have:=b;unfold Fit qC at this;simp only[qt]at this;exact this.1
  rw[oa,e];dsimp only;rw[oa,if_pos c.1,if_pos (OE A c.2.2)];refine .inl ⟨rfl,?_⟩;unfold oz;split
  .rename_i t g;split at g
   .rename_i D;simp only[qq]at g;subst g;exact aU l [di _] (λy d=>by simp[e,d]) hm (by simp[di,Va.size,vsizes,tysizes,sizes]) rfl ⟨Gy (by show (5::encTr (dR v)).toArray.size<=200;rw[jd6,js];omega),a⟩
   .cases g
  .exact .big _ rfl
 split at h
 .rename_i c;obtain⟨T,r,rfl,_⟩:=fZ c.2.1;obtain⟨rfl,rfl⟩:=bN h;have⟨v,l,e,b,a⟩:=av hf;rw[e]at hZ;rw[oa,e];dsimp only;rw[oa,oa,if_pos c.1];rw[hi (.inr c.1)]at hg|-;refine .inl ⟨rfl,?_⟩;split
  .rename_i w o;exact aU l [aV w] (λy d=>by simp[e,d]) hm (by have:=(wQ o).2.2;simp only[mkV,aV,Va.size,vsizes,tysizes,sizes];omega) rfl ⟨lK (fo hg) (Bg (wQ o).1 (wQ o).2.1),a⟩
  .exact aU l [noneV] (λy d=>by simp[e,d]) hm oY rfl ⟨lJ (fo hg),a⟩
 split at h
 .rename_i c;obtain⟨T,r,rfl,_⟩:=fZ c.2.1;have⟨v,l,e,b,a⟩:=av hf;rw[e]at hZ;rw[oa,e];dsimp only;rw[oa,oa,oa];refine .inr ⟨v,rfl,?_,hZ.hd,T,b⟩;have:=pM b;have:=(tO (je b)).1;omega
 .cases h
def yH (en:En):Prop:=lY en.self/\lY en.sender/\gN en.amount/\gN en.balance
def PQ(c:ED a)(hb:0<b/\b<=1152921504606846976):(addN a b).2=0/\(addN a b).1=a+b/\a+b<=1152921504606846976\/(addN a b).2=11:=by
 unfold addN kF;have⟨d,e⟩:=c;rw[if_pos (by simp[kE];omega)]
 by_cases h:kE (a+b)
 .rw[if_pos h];simp[kE]at h;exact .inl ⟨rfl,rfl,h.2⟩
 .rw[if_neg h];exact .inr rfl
def KP(Z:yH en)(hk:i.p=84\/i.p=85\/i.p=86\/i.p=87)(h:bF i s =.ok f x)(H:x.all ai)(hm:ED m.aO)(Q:FitS s m.st)(z:Sm m.st):f=false/\Does m x (iB en i.p m):=by
 unfold bF at h;unfold iB;split at h
 .rename_i c;obtain⟨T,U,r,rfl,_,P⟩:=lT c.2.1;obtain⟨rfl,rfl⟩:=bN h;have⟨v,l,e,k,g⟩:=av Q;rw[e]at z;obtain⟨u,l,rfl,X,g⟩:=av g;have⟨_,n2,n3⟩:=qd X (.inr (.inl (P ot)));have n3:=n3 (by have:=P ot;omega);rw[e];dsimp only;rw[if_pos c.1];refine⟨rfl,?_⟩;split
  .exact aU l [noneV] (λy j=>by simp[e,j]) hm oY rfl ⟨lJ (fo H),g⟩
  .rcases PQ hm (b:=u.n) od with⟨D,R,a3⟩|D
   .rw[if_pos D,R];have o:=fo (gX (fo H));exact .put l [_] _ (λy j=>by simp[e,j]) ⟨lK (fo H) (Ao o Z.1 od k),g⟩ ⟨by have:=hm.1;omega,a3⟩ od (by have:=z.hd;simp only[mkV,aV,aM,Va.size,vsizes,tysizes,sizes];omega)
   .rw[oa,D];exact .over _ rfl
 split at h
 .rename_i c;obtain⟨T,r,rfl,G⟩:=fZ c.2;obtain⟨rfl,rfl⟩:=bN h;have⟨v,l,e,k,g⟩:=av Q;rw[e]at z;have⟨A,y,E,w,g1,g2,g3,Y⟩:=xH k (G ot);rw[e];dsimp only;rw[oa,if_pos c.1,w];refine⟨rfl,?_⟩;have d:=fo H;have W:aJ (T::r) 0=T:=rfl;rw[W,E]at d|-;have o:=gX d;simp only[Ty.args,xj,qt]at o;refine aU l [_,v] (λy j=>by simp[e,j]) hm (by have:=z.hd;have q:=jb v;rw[w]at q;simp only[aY,mkV,aW,Va.size,vsizes,tysizes,sizes]at q|-;omega) rfl ⟨qB d (ja ot ?_) (qB o.2.1 g1 (ja ot (nO (.inr (.inl rfl)) od od))),k,g⟩;unfold bQ;simpa using g2
 split at h
 .rename_i c;obtain⟨T,U,r,rfl,G,P⟩:=lT c.2.1;obtain⟨rfl,rfl⟩:=bN h;have⟨v,l,e,k,g⟩:=av Q;rw[e]at z;obtain⟨u,l,rfl,X,g⟩:=av g;have⟨A,y,E,w,g1,g2,g3,Y⟩:=xH k (G ot);have⟨B,C,p,q,L,M,N,S⟩:=uX X (P ot);have I:standF U.args [4,4]:=c.2.2;rw[L]at I;have⟨B',C',r',J,K,O⟩:=lT I;simp only[qa5]at J;obtain⟨rfl,rfl,rfl⟩:=J;have⟨_,p2,p3⟩:=qd N (.inr (.inl (K ot)));have⟨_,q2,q3⟩:=qd S (.inr (.inl (O ot)));have p3:=p3 (by have:=K ot;omega);have q3:=q3 (by have:=O ot;omega);rw[e];dsimp only;rw[oa,oa,if_pos c.1,w];dsimp only;rw[M];dsimp only;refine⟨rfl,?_⟩;have d:=fo H;have aa:=fo (gX d);split
  .exact aU l [noneV] (λy j=>by simp[e,j]) hm oY rfl ⟨lJ d,g⟩
  .have F:T =.nd 15 [A]:=by
    have⟨t,a⟩:=T;have:=G ot;simp only[Ty.t,Ty.args]at this E;rw[this,E]
   subst F;exact aU l [aV _] (λy j=>by simp[e,j]) hm (by have:=z.hd;have q:=jb v;rw[w]at q;simp only[aY,mkV,aV,aM,Va.size,vsizes,tysizes,sizes]at q|-;omega) rfl ⟨lK d (qB aa (Ao (je k) g2 od g1) (Ao (je k) g2 od g1)),g⟩
 split at h
 .rename_i c;obtain⟨T,r,rfl,G⟩:=fZ c.2.1;obtain⟨rfl,rfl⟩:=bN h;have⟨v,l,e,k,g⟩:=av Q;rw[e]at z;have⟨B,C,p,q,L,M,N,S⟩:=uX k (G ot);have I:standF T.args [15,15]:=c.2.2.1;rw[L]at I;have⟨B',C',r',J,K,O⟩:=lT I;simp only[qa5]at J;obtain⟨rfl,rfl,rfl⟩:=J;have⟨A,y,E,w,g1,g2,g3,Y⟩:=xH N (K ot);have⟨A',y',ab,V,ad,ae,ah,aj⟩:=xH S (O ot);rw[e];dsimp only;rw[oa,oa,oa,M];dsimp only;rw[w,V];dsimp only;refine⟨rfl,?_⟩;have d:=fo H;have W:aJ (T::r) 0=T:=rfl;rw[W,L]at d|-;split
  .exact aU l [noneV] (λy j=>by simp[e,j]) hm oY rfl ⟨lJ d,g⟩
  .rcases PQ (a:=p.n) (b:=q.n) ⟨od,Y⟩ od with⟨D,R,a3⟩|D
   .rw[if_pos D,R];have F:B =.nd 15 [A]:=by
     have⟨t,a⟩:=B;have:=K ot;simp only[Ty.t,Ty.args]at this E;rw[this,E]
    subst F;exact aU l [aV _] (λy j=>by simp[e,j]) hm (by have:=z.hd;have q:=jb v;rw[M]at q;have q2:=jb p;rw[w]at q2;simp only[mkV,aV,aM,Va.size,vsizes,tysizes,sizes]at q q2|-;omega) rfl ⟨lK d (Ao (je N) g2 od g1),g⟩
   .rw[oa,D];exact .over _ rfl
 .cases h
def RI{n:Tr}(a:yH en)(C:n.p0=i.p)(hi:i.p=88->i.types=[kreadT (dK n 0)])(h:dO i s =.ok f x)(hm:ED m.aO)(b:FitS s m.st)(q:Sm m.st):f=false/\Does m x (iw en n m):=by
 unfold dO at h;unfold iw;rw[C];split at h
 .rename_i c;obtain⟨T,U,V,r,rfl,_,A,B⟩:=Kt c.2.1;obtain⟨rfl,rfl⟩:=bN h;have⟨v,l,e,o,d⟩:=av b;rw[e]at q;obtain⟨u,l,rfl,t,d⟩:=av d;obtain⟨w,l,rfl,z,d⟩:=av d;have g:=sameT_eq _ _ c.2.2.1;rw[hi c.1]at g;have g:T=kreadT (dK n 0):=g;have j:=Gx t;have k:=Gx z;rw[A ot]at j;rw[B ot]at k;unfold bQ at j k;rw[oa,oa,oa,oa,e,<-g];exact⟨rfl,aU l [_] (λy D=>by simp[e,D]) hm (by have:=q.hd;have:=(dE (je o)).2.1;simp only[Va.size,vsizes,tysizes,sizes];omega) rfl ⟨Ub (by simpa using k) (by simpa using j) o,d⟩⟩
 split at h
 .rename_i c;obtain⟨rfl,rfl⟩:=bN h;refine⟨rfl,?_⟩;rcases c with p|p<;>simp only[p,Int.reduceEq,↓reduceIte]
  .exact aU m.st [aW 7 _] (λ_ h=>h) hm oT rfl ⟨ja ot (by unfold bQ;simpa using a.1),b⟩
  .exact aU m.st [aW 7 _] (λ_ h=>h) hm oT rfl ⟨ja ot (by unfold bQ;simpa using a.2.1),b⟩
 split at h
 .rename_i c;obtain⟨rfl,rfl⟩:=bN h;refine⟨rfl,?_⟩;rcases c with p|p<;>simp only[p,Int.reduceEq,↓reduceIte]
  .exact aU m.st [aW 5 _] (λ_ h=>h) hm oT rfl ⟨ja ot (by unfold bQ;simpa using a.2.2.1),b⟩
  .exact aU m.st [aW 5 _] (λ_ h=>h) hm oT rfl ⟨ja ot (by unfold bQ;simpa using a.2.2.2),b⟩
 .cases h
def Ld (l:aE) (s z:aw):Prop:=(l=[]/\z=s)\/∃N f x,N<=300/\s.length+N<=341/\iG (stepF N) l false s =.ok f x/\(f=false->z=x)
def vR (l:aE):Prop:=(∃d,bG (d+1) l=0)/\sizes l<=299
def YO (f:Fr) (s z:aw):Prop :=
 (f.op=0/\Ld f.rest s z) \/
 (f.op=60/\∃E,Ld f.rest s z/\Ld f.row (E::z) z/\∀x∈f.aside,Fit E x) \/
 (f.op=65/\Ld f.rest s (.nd 2 []::z)/\Ld f.row z (.nd 2 []::z)) \/
 (f.op=68/\∃T v y,f.aside=[v]/\Fit T v/\Ld f.rest s y/\z=T::y) \/
 (f.op=67/\∃T u,Ld f.rest s [T]/\FitS u f.aside.reverse/\z=T::u)
def Zo [Nr] (f:Fr):Prop:=vR f.rest/\vR f.row/\Sq f.aside/\f.aside.length<=342
def Chn [Nr]:List Fr->aw->aw->Prop
 | [],s,S=>s=S
 | f::fs,s,S=>Zo f/\∃z,YO f s z/\Chn fs z S
def cost (l:List Fr):Nat:=(l.map λf=>2*sizes f.rest+1).sum
def gB(f:Fr)(l:List Fr):cost (f::l)=2*sizes f.rest+1+cost l:=by simp[cost]
structure WT [Nr] (aC:Int) (S:aw) (m:Ma):Prop where
 typed:∃s,FitS s m.st/\Chn m.fr s S
 aO:ED m.aO
 paid:0<=m.paid/\(m.paid=0\/m.paid<=aC)
 cost:(cost m.fr:Int)<=602*(m.paid+1)
 small:Sq m.st
 len:m.st.length<=342
def Ends (aC:Int) (e:Int) (m:Ma):Prop:=(0<=m.paid/\(m.paid=0\/m.paid<=aC))/\(e=10/\(m.said.k≠0/\m.said.size<=6000000/\∃T,Fit T m.said)\/e=11\/e=12/\aC<=m.paid\/e=13)
def tJ [Nr] (aC:Int) (S:aw) (m:Ma):Out->Prop
 | .stuck=>False
 | .no e m'=>Ends aC e m'
 | .go m'=>WT aC S m'/\(m'.paid=m.paid/\cost m'.fr<cost m.fr\/m'.paid=m.paid+1)
def Bw(h:Ld [] s z):z=s:=by
 rcases h with⟨_,h⟩|⟨N,f,x,_,_,h,a⟩
 .exact h
 .simp only[iG,iF.ok.injEq]at h;rw[a h.1.symm,h.2]
def E8: Ld [] s s:=.inl ⟨rfl,rfl⟩
def wJ{l:aE}(h:Ld l s z):z=s\/s.length<=341:=by
 rcases h with⟨_,h⟩|⟨N,f,x,_,h,_⟩
 .exact .inl h
 .exact .inr od
def Uj{l:aE}(h:Ld (t::l) s z):∃N f x,N<=300/\s.length+N<=341/\keptF (stepF N t s) =.ok f x/\((f=false/\Ld l x z)\/(f/\l=[])):=by
 rcases h with⟨h,_⟩|⟨N,f,x,a,b,h,c⟩
 .cases h
 rw[iG,if_neg oe]at h
 cases hk:keptF (stepF N t s)with
 | no e=>rw[hk]at h;simp at h
 | ok g y =>
  rw[hk]at h;refine⟨N,g,y,a,b,hk,?_⟩;have d:=(nP hk).2.1
  cases g with
  | false=>exact .inl ⟨rfl,.inr ⟨N,f,x,a,od,h,c⟩⟩
  | true =>
   cases l with
   | nil=>exact .inr ⟨rfl,rfl⟩
   | cons u r=>simp[iG]at h
def Ar{a b:iF}(h:meetF a b =.ok f x)(k:f=false->z=x):∃d g f2 i,a =.ok d g/\b =.ok f2 i/\(d=false->z=g)/\(f2=false->z=i):=by
 cases a with
 | no e=>cases b<;>simp[meetF]at h
 | ok d g =>
  cases b with
  | no e=>simp[meetF]at h
  | ok f2 i =>
   refine⟨d,g,f2,i,rfl,rfl,?_⟩;simp only[meetF]at h
   cases d with
   | true =>
    simp only[if_true,iF.ok.injEq]at h;exact⟨λh=>by simp at h,λj=>by rw[k (h.1 ▸ j),h.2]⟩
   | false =>
    simp only[qd3,if_false]at h;split at h
    .rename_i c;simp only[iF.ok.injEq]at h;have e:=k h.1.symm;refine⟨λ_=>by rw[e,h.2],λj=>?_⟩;rcases c with c|c
     .rw[j]at c;cases c
     .rw[e,<-h.2];exact sameTs_eq _ _ c
    .cases h
def xD: ∀{l:aE}{t:Tr},bG d l=0->t∈l->bC d t=0
 | u::l,t,h,a=>by
  rw[bG]at h
  by_cases b:bC d u=0
  .rw[if_neg (by simpa using b)]at h;rcases kl.1 a with rfl|a
   .exact b
   .exact xD h a
  .rw[if_pos b]at h;exact absurd h b
 | [],t,_,a=>by simp at a
def size_mem:∀{l:aE}{t:Tr},t∈l->t.size<=sizes l
 | u::l,t,h=>by
  rw[sizes];rcases kl.1 h with rfl|h
  .omega
  .have:=size_mem h;omega
 | [],t,h=>by simp at h
def JA{l:aE}(h:vR (t::l)):vR l:=by
 have⟨⟨d,a⟩,c⟩:=h;rw[bG]at a;rw[sizes]at c;refine⟨⟨d,?_⟩,od⟩
 by_cases b:bC (d+1) t=0
 .rwa [if_neg (by simpa using b)]at a
 .rw[if_pos b]at a;exact absurd a b
def jq(h:bC d t=0)(b:t.size<=300):vR t.args0:=by
 have⟨k,n,p,s,a⟩:=t;rw[bC]at h;rw[Tr.size]at b;split at h
 .cases h
 .split at h
  .rename_i c;exact absurd h c
  .exact⟨⟨d,h⟩,by show sizes a<=299;omega⟩
def goodC_nil:vR []:=⟨⟨0,by rw[bG]⟩,by simp[sizes]⟩
def jY(h:iY t=some i)(a:bR t.p0=fs):t.k0=2/\t.args0.length=fs.length/\takesF ⟨t.p0,0,[],[],tr0⟩ fs t.args0=some i:=by
 unfold iY at h;split at h
 .rename_i c;rw[a]at h c;exact⟨c.1,c.2.2,h⟩
 .cases h
def XP{f:UInt8}(h:iy i f t=some j):j.p=i.p:=by
 unfold iy at h
 repeat' split at h
 all_goals first|(cases h;rfl)|cases h
def takes_p:∀{fs:bw}{l:aE}{i j:Ins},takesF i fs l=some j->j.p=i.p
 | [],_,i,j,h=>by rw[takesF]at h;cases h;rfl
 | f::fs,[],i,j,h=>by rw[takesF]at h;cases h;rfl
 | f::fs,t::l,i,j,h=>by
  rw[takesF]at h;split at h
  .cases h
  .rename_i k a;rw[takes_p h,XP a]
def ng(h:iY t=some i):t.p0=i.p:=by have:=(jY h rfl).2.2;rw[takes_p this]
def rD{a:Tr}{l:aE}(h:t.args0=a::l):dK t 0=a:=by unfold dK;rw[h];rfl
def aec{a b:Tr}{l:aE}(h:t.args0=a::b::l):dK t 1=b:=by unfold dK;rw[h];rfl
def TD{a b:Tr}{l:aE}(h:t.args0=a::b::c::l):dK t 2=c:=by unfold dK;rw[h];rfl
def Vp(h:iy i 110 t=some j):j.n=t.n0/\0<=j.n:=by simp[iy]at h;obtain⟨c,rfl⟩:=h;exact⟨rfl,c.2.1⟩
def mF{f:UInt8}(a:f=116\/f=117)(h:iy i f t=some j):j = { i with types:=i.types++[kreadT t] }/\fu t:=by rcases a with rfl|rfl<;>simp[iy]at h<;>exact⟨h.2.symm,h.1⟩
def Az{f:UInt8}(a:f=99\/f=100)(h:iy i f t=some j):j = { i with rows:=i.rows++[t.args0] }/\t.k0=3:=by rcases a with rfl|rfl<;>simp[iy]at h<;>exact⟨h.2.symm,h.1⟩
def mG{f:UInt8}{l:aE}(b:l.length=1)(h:takesF i [f] l=some j):∃a,l=[a]/\iy i f a=some j:=by
 match l,b with
 | [a],_ =>
  refine⟨a,rfl,?_⟩;rw[takesF]at h;split at h
  .cases h
  .rename_i k hk;rw[takesF]at h;rw[hk,h]
def pV{f:UInt8}{l:aE}(b:l.length=fs.length+1)(h:takesF i (f::fs) l=some j):∃a r k,l=a::r/\r.length=fs.length/\iy i f a=some k/\takesF k fs r=some j:=by
 match l,b with
 | a::r,b =>
  rw[takesF]at h;split at h
  .cases h
  .rename_i k hk;exact⟨a,r,k,rfl,by simpa using b,hk,h⟩
def UW(h:iY t=some i)(b:i.p=41\/i.p=43\/i.p=44):i.n=(dK t 0).n0/\0<=i.n:=by rw[<-ng h]at b;have⟨_,c,d⟩:=jY h (show bR t.p0=[110] by unfold bR;rw[if_pos b]);have⟨a,e,f⟩:=mG c d;rw[rD e];exact Vp f
def Kh(h:iY t=some i)(b:i.p=50\/i.p=51\/i.p=54\/i.p=56\/i.p=82\/i.p=88):i.types=[kreadT (dK t 0)]:=by rw[<-ng h]at b;have⟨_,c,d⟩:=jY h (show bR t.p0=[116] by unfold bR;rw[oa,oa,if_pos b]);have⟨a,e,f⟩:=mG c d;rw[rD e,(mF (.inl rfl) f).1];rfl
def LW(h:iY t=some i)(d:i.p=45):i.types=[kreadT (dK t 0)]/\i.data=dK t 1:=by rw[<-ng h]at d;have⟨_,f,g⟩:=jY h (show bR t.p0=[116,118] by unfold bR;rw[oa,if_pos d]);have⟨a,r,k,e,m,j,l⟩:=pV f g;obtain⟨b,rfl,c⟩:=mG m l;rw[rD e,aec e];obtain⟨rfl,_⟩:=mF (.inl rfl) j;simp[iy]at c;subst c;exact⟨rfl,rfl⟩
def UZ(h:iY t=some i)(c:i.p=61):i.types.length=2:=by rw[<-ng h]at c;have⟨_,d,f⟩:=jY h (show bR t.p0=[116,117] by unfold bR;rw[oa,oa,oa,if_pos c]);have⟨a,r,k,e,m,g,j⟩:=pV d f;obtain⟨b,rfl,l⟩:=mG m j;rw[(mF (.inr rfl) l).1,(mF (.inl rfl) g).1];rfl
def LV(h:iY t=some i)(c:i.p=52\/i.p=55\/i.p=58\/i.p=64):∃a b,t.args0=[a,b]/\i.rows=[a.args0,b.args0]:=by rw[<-ng h]at c;have⟨_,d,f⟩:=jY h (show bR t.p0=[99,100] by unfold bR;rw[oa,oa,oa,oa,if_pos c]);have⟨a,r,k,e,m,g,j⟩:=pV d f;obtain⟨b,rfl,l⟩:=mG m j;refine⟨a,b,e,?_⟩;rw[(Az (.inr rfl) l).1,(Az (.inl rfl) g).1];rfl
def Fq(h:iY t=some i)(b:i.p=60\/i.p=65\/i.p=68):∃a,t.args0=[a]/\i.rows=[a.args0]:=by rw[<-ng h]at b;have⟨_,c,d⟩:=jY h (show bR t.p0=[99] by unfold bR;rw[oa,oa,oa,oa,oa,if_pos b]);have⟨a,e,f⟩:=mG c d;refine⟨a,e,?_⟩;rw[(Az (.inl rfl) f).1];rfl
def aeI(h:iY t=some i)(f:i.p=66):∃a b c,t.args0=[a,b,c]/\i.types=[kreadT a,kreadT b]/\i.rows=[c.args0]/\c.k0=3:=by rw[<-ng h]at f;have⟨_,g,j⟩:=jY h (show bR t.p0=[116,117,99] by unfold bR;rw[oa,oa,oa,oa,oa,oa,if_pos f]);have⟨a,r,k,e,d,l,m⟩:=pV g j;obtain⟨b,r,u,rfl,d,s,n⟩:=pV d m;obtain⟨c,rfl,o⟩:=mG d n;refine⟨a,b,c,e,?_⟩;obtain⟨rfl,q⟩:=Az (.inl rfl) o;rw[(mF (.inr rfl) s).1,(mF (.inl rfl) l).1];exact⟨rfl,rfl,q⟩
def K7 (a b:iF):Prop:=∀f x,a =.ok f x->b =.ok f x
def GV{a a' b b':iF}(c:K7 a a')(hb:K7 b b'):K7 (meetF a b) (meetF a' b'):=by
 intro f x h
 cases a with
 | no e=>cases b<;>simp[meetF]at h
 | ok d i =>
  cases b with
  | no e=>simp[meetF]at h
  | ok g j=>rw[c _ _ rfl,hb _ _ rfl];exact h
def Aq{st b:Tr->aw->iF}(h:∀t s,K7 (st t s) (b t s)):∀(l:aE) (f:Bool) (s:aw),K7 (iG st l f s) (iG b l f s)
 | [],f,s=>λ_ _ h=>h
 | t::l,f,s=>λg x a=>by
  rw[iG]at a|-;split
  .rename_i c;rw[if_pos c]at a;exact a
  .rename_i c;rw[if_neg c]at a
   cases hk:keptF (st t s)with
   | no e=>rw[hk]at a;simp at a
   | ok d i =>
    rw[hk]at a;have:=nP hk;have e:b t s=st t s:=by rw[this.1];exact h _ _ _ _ this.1
    rw[e,hk];exact Aq h l d i g x a
def Um{c:Prop}[Decidable c]{a a' b b':iF}(h:K7 a a')(k:K7 b b'):K7 (if c then a else b) (if c then a' else b'):=by split<;>assumption
def Ul{row a:aE->aw->iF}(h:∀l s,K7 (row l s) (a l s))(i:Ins)(s:aw):K7 (vP row i s) (vP a i s):=by
 have g:∀s x y,K7 (iC row i s x y) (iC a i s x y):=λs x y=>GV (h _ _) (h _ _);have j:∀x y z,K7 (dM row i x y z) (dM a i x y z):=λx y z f u b=>by
  unfold dM at b|-;split at b
  .cases b
  .rename_i c e d;rw[GV (h _ _) (λ_ _ h=>h) c e d];exact b
 have k:∀T s,K7 (l7 row i T s) (l7 a i T s):=λT s f u b=>by
  unfold l7 at b|-;split at b
  .cases b
  .rename_i c e d;rw[h _ _ c e d];exact b
 unfold vP eG bP
 repeat' apply Um
 all_goals first|exact λ_ _ h=>h|exact g _ _ _|exact j _ _ _|exact k _ _
def leq_step:∀(N M:Nat),N<=M->∀t s,K7 (stepF N t s) (stepF M t s)
 | 0,_,_,t,s=>λf x h=>by simp[stepF]at h
 | N+1,0,h,_,_=>od
 | N+1,M+1,h,t,s=>by
  have a:=leq_step N M od;rw[stepF,stepF];split
  .exact Aq a _ _ _
  .split
   .exact λ_ _ h=>h
   .exact Ul (λl s=>Aq a _ _ _) _ _
def G7(j:v.types=[A,B])(h:jG v):vR v.code/\Ld v.code [A] [B]/\mintsTs v.code=false:=by
 unfold jG at h;rw[j]at h
 cases a:codeF (.nd 3 0 0 ⟨#[]⟩ v.code) ([A,B].take 1)with
 | no e=>rw[a]at h;cases h
 | ok f ts =>
  rw[a]at h;simp only[qt,qg1]at h;have⟨b,i⟩:=h;unfold codeF at a;split at a
  .cases a
  rename_i c;have c:dS (.nd 3 0 0 ⟨#[]⟩ v.code)=0:=by simpa using c
  split at a
  .cases a
  split at a
  .cases a
  split at a
  .have d:=iV c;refine⟨jq d.1 d.2,.inr ⟨300,f,ts,jj _,oe,a,λg=>?_⟩,i⟩;unfold rU at b;rw[g]at b;simp only[jd3]at b
   match ts,b with
   | [T],b =>
    have:=sameT_eq _ _ b;rw[show T=B from this]
  .cases a
def Jv(h:Fit T v):tysizes v.types<=300/\sizes v.code<=299:=by
 have⟨l,f,_,_,g⟩:=iO h;have m:=pM h
 by_cases c:T.t=14
 .have⟨A,B,d,e,_,g⟩:=Lm h c;have i:=(dE l).2.1;have⟨t,a⟩:=T;simp only[Ty.args]at d;rw[Ty.size,d]at i;rw[e];exact⟨od,(G7 e g).1.2⟩
 .simp only[eX,qt,qe2,jt]at f;have⟨⟨_,b⟩,j⟩:=f;have k:v.code=[]:=by
   rcases j with h|h
   .exact jz h
   .exact absurd h c
  rw[k];refine⟨?_,by simp[sizes]⟩;unfold eZ at b;split at b
  .match v.types,b with
   | [u],b=>have:=(dE b).2.1;simp only[tysizes];omega
   | [],_=>simp[tysizes]
   | _::_::_,b=>simp[oneGood]at b
  .simp only[jt]at b;rw[jz b];simp[tysizes]
mutual
def fit_size:∀(v:Va) (T:Ty),Fit T v->v.size<=600*vsum v/\vsum v<=26*v.size
 | .mk k n a s b c d,T,h=>by have⟨e,f⟩:=Jv h;have g:=Bh h;have⟨ts,_,i⟩:=(iO h).2.2.1;have⟨j,l⟩:=fit_sizes b ts i;simp only[Va.types,Va.code,Va.s]at e f g;rw[Va.size,vsum];omega
def fit_sizes:∀(l:ao) (ts:aw),FitS ts l->vsizes l<=600*vsums l/\vsums l<=26*vsizes l
 | [],_,_=>by simp[vsizes,vsums]
 | v::l,[],h=>h.elim
 | v::l,T::ts,h=>by have⟨a,b⟩:=fit_size v T h.1;have⟨c,d⟩:=fit_sizes l ts h.2;rw[vsizes,vsums];omega
end
def Io(h:Fit T v)(c:v.size<=20000000)(hb:yN v=false):v.size<=120000:=by have⟨a,b⟩:=fit_size v T h;unfold yN at hb;simp only[qe1]at hb;unfold wrap64 at hb;omega
def fitS_left:∀{a:ao}{b:ao}{s:aw},FitS s (a++b)->∀v∈a,∃T,Fit T v
 | a,b,s,h,v,d=>by have⟨T,_,c⟩:=fitS_mem h v (by simp[d]);exact⟨T,c⟩
def Du[Nr]{o:Out}(p:Does m x o)(u:x.length<=40)(hc:Chn m.fr x S)(l:m.paid=m0.paid+1)(h0:0<=m0.paid)(f:m.paid<=aC)(a:(cost m.fr:Int)<=602*(m.paid+1))(hm:ED m.aO)(n:Sq m.st):tJ aC S m0 o:=by
 cases p with
 | put rest e k g c hk _ t =>
  have q:=fitS_len c;unfold bz;rw[oa];split
  .exact⟨⟨vj,.inr f⟩,.inr (.inr (.inr rfl))⟩
  .rename_i j;refine⟨⟨⟨x,c,hc⟩,hk,⟨vj,.inr f⟩,a,λy b=>?_,by show (e++rest).length<=342;omega⟩,.inr l⟩;rcases ki.1 b with b|b
   .have⟨T,i⟩:=fitS_left c y b;have d:yN y=false:=by
     rw[qg0]at j
     cases r:yN y with
     | false=>rfl
     | true=>exact absurd ⟨y,b,r⟩ j
    have:=fO b;have:=Io i od d;exact⟨od,Nr.sm T y i od d⟩
   .exact n y (g y b)
 | go rest g c =>
  have q:=fitS_len c;exact⟨⟨⟨x,c,hc⟩,hm,⟨vj,.inr f⟩,a,λy b=>n y (g y b),by show rest.length<=342;omega⟩,.inr l⟩
 | over s h=>exact⟨⟨od,.inr od⟩,.inr (.inl rfl)⟩
 | big s h=>exact⟨⟨od,.inr od⟩,.inr (.inr (.inr rfl))⟩
def OM[Nr]:∀{fs:List Fr}{s S:aw},Chn fs s S->S.length<=342->s.length<=342
 | [],s,S,h,b=>by rw[show s=S from h];exact b
 | f::fs,s,S,h,b=>by
  have⟨_,z,h,c⟩:=h;have d:=OM c b;rcases h with⟨_,h⟩|⟨_,E,h,_⟩|⟨_,h,a⟩|⟨_,T,v,y,_,_,h,rfl⟩|⟨_,T,u,h,_⟩
  .rcases wJ h with rfl|h<;>omega
  .rcases wJ h with rfl|h<;>omega
  .rcases wJ h with h|h
   .rcases wJ a with a|a
    .have:=congrArg List.length a;simp at this
    .rw[<-h];simp only[js];omega
   .omega
  .simp only[js]at d;rcases wJ h with rfl|h<;>omega
  .rcases wJ h with h|h
   .rw[<-h];simp
   .omega
def qE{l:aE}(h:vR l)(a:t∈l):(∃d,bC (d+1) t=0)/\t.size<=299:=by have⟨⟨d,b⟩,c⟩:=h;exact⟨⟨d,xD b a⟩,by have:=size_mem a;omega⟩
def Ej{a:Tr}(h:a∈t.args0):sizes a.args0+2<=t.size:=by have⟨k,n,p,s,c⟩:=t;have:=size_mem (show a∈c from h);have⟨d,e,f,g,b⟩:=a;rw[Tr.size]at this|-;show sizes b+2<=_;omega
def Yv(h:Fit T v)(a:T.t=10\/T.t=13):∃E,(T.t=10->T.args=[E])/\(T.t=13->E =.nd 11 T.args)/\v.args.length<=24/\∀x∈v.args,Fit E x:=by
 rcases a with a|a
 .have⟨A,e,b,c⟩:=xG h a;exact⟨A,λ_=>e,λh=>od,b,c⟩
 .have⟨A,B,e,b,c,_⟩:=Am h a;exact⟨.nd 11 [A,B],λh=>od,λ_=>by rw[e],b,c⟩
def YL(b:ai T)(h:T.t<=8):T =.nd T.t []:=by have:=yU b h;have⟨t,a⟩:=T;simp only[Ty.args]at this;rw[this];rfl
def aaY[Nr](h:v.size<=6000000/\Nr.q v)(hk:v.k≠11):Sq v.args:=λx a=>⟨by have:=fO a;have:=jb v;omega,Nr.ax v h.2 hk x a⟩
def Al{r:aE}{y u:aw}(n:rowAt i 0=r)(h:dM (λl s=>iG (stepF N) l false s) i x y z =.ok f u)(j:N<=300)(k:x.length+N<=341):f=false/\u=z/\Ld r x y:=by
 unfold dM at h;rw[n]at h
 cases a:meetF (iG (stepF N) r false x) (bB y [])with
 | no e=>rw[a]at h;cases h
 | ok g w =>
  rw[a]at h;obtain⟨rfl,rfl⟩:=bN h;refine⟨rfl,rfl,?_⟩
  cases b:iG (stepF N) r false x with
  | no e=>rw[b]at a;simp[meetF]at a
  | ok d o =>
   refine .inr ⟨N,d,o,j,k,b,λm=>?_⟩;rw[b,m]at a;simp only[meetF,bB,qe5,qd3,if_false,false_or]at a;split at a
   .rename_i c;exact (sameTs_eq _ _ c).symm
   .cases a
def Jk[Nr](P:t.p0=i.p)(hk:i.p=52\/i.p=55\/i.p=58\/i.p=64)(ae:∃a b,t.args0=[a,b]/\i.rows=[a.args0,b.args0])
 (h:eG (λl s=>iG (stepF N) l false s) i s =.ok f x) (hN:N<300) (hsN:s.length+N<=340) (hgt:∃d,bC (d+1) t=0) (hst:t.size<=299) (hz:f=false->z=x) (hc:Chn m.fr z S) (hf:FitS s m.st) (hZ:Sq m.st) (hm:ED m.aO)
 (hpd:m.paid=m0.paid+1) (h0:0<=m0.paid) (hg:m.paid<=aC) (hcost:(cost m.fr:Int)+2*t.size<=602*(m.paid+1)):tJ aC S m0 (gJ t m):=by
 have⟨a,b,J,e2⟩:=ae
 -- a way that is gone
 have key:∀(X:aw) (H l:ao) (w:Nat) (c:Tr) (v:Va),m.st=v::l->t.args0[w]?=some c->ru t.p0 v=(w,H)->¬(t.p0=52/\v.n<0)->FitS X (H++l)->X.length<=s.length+1->(∀y∈l,y∈m.st)->vsizes H<=20000000 ->
  (∃k F,iG (stepF N) c.args0 false X =.ok k F/\(k=false->z=F))->tJ aC S m0 (gJ t m):=by
  intro X H l w c v e E Y V hF hX o hv ⟨k,F,W,ah⟩;have U:c∈t.args0:=ka E;have aj:=fitS_len hF;have⟨d,hd⟩:=hgt;have ad:vR c.args0:=by have h1:=jq hd od;have⟨⟨d2,h2⟩,h3⟩:=qE h1 U;exact jq h2 od
  unfold gJ;rw[e];dsimp only;rw[Y,E];dsimp only;rw[if_neg V];unfold bz;rw[oa];have ak:=Ej U;have ab:(cost (⟨c.args0,0,[],[]⟩::m.fr):Int)<=602*(m.paid+1):=by rw[gB];dsimp only;omega
  split
  .exact⟨⟨vj,.inr hg⟩,.inr (.inr (.inr rfl))⟩
  .rename_i hb;refine⟨⟨⟨X,hF,⟨⟨ad,goodC_nil,λy g=>by simp at g,oe⟩,z,.inl ⟨rfl,.inr ⟨N,k,F,od,od,W,ah⟩⟩,hc⟩⟩,hm,⟨vj,.inr hg⟩,ab,λy g=>?_,by show (H++l).length<=342;omega⟩,.inr hpd⟩;rcases ki.1 g with g|g
   .have⟨T,D⟩:=fitS_left hF y g;have R:yN y=false:=by
     rw[qg0]at hb
     cases hq:yN y with
     | false=>rfl
     | true=>exact absurd ⟨y,g,hq⟩ hb
    have:=fO g;have:=Io D od R;exact⟨od,Nr.sm T y D od R⟩
   .exact hZ y (o y g)
 have ra:rowAt i 0=a.args0:=by unfold rowAt;rw[e2];rfl
 have rb:rowAt i 1=b.args0:=by unfold rowAt;rw[e2];rfl
 unfold eG at h;split at h
 .rename_i c;obtain⟨T,r,rfl,D⟩:=fZ c.2;have⟨v,l,e,k,G⟩:=av hf;have⟨A,B,y,K,Z,q⟩:=Xj k (D ot);have⟨g1,F,g2,L,u,C,M,O⟩:=Ar h hz;rw[ra]at u;rw[rb]at C;have Q:aJ (T::r) 0=T:=rfl;rw[Q,K]at u C;have j:vsizes v.args<=20000000:=by rw[e]at hZ;have:=hZ.hd;have:=jb v;omega
  have o:∀y∈l,y∈m.st:=λy g=>by simp[e,g]
  rcases q with⟨n0,fA⟩|⟨n1,fB⟩
  .exact key (A::r) v.args l 0 a v e (by rw[J];rfl) (by unfold ru;rw[P,if_pos c.1,n0];rfl) od (by rw[Z];exact⟨fA,G⟩) OK o j ⟨g1,F,u,M⟩
  .exact key (B::r) v.args l 1 b v e (by rw[J];rfl) (by unfold ru;rw[P,if_pos c.1,n1];rfl) od (by rw[Z];exact⟨fB,G⟩) OK o j ⟨g2,L,C,O⟩
 split at h
 .rename_i c;obtain⟨T,r,rfl,D⟩:=fZ c.2;have⟨v,l,e,k,G⟩:=av hf;have⟨A,K,q⟩:=EW k (D ot);have⟨g1,F,g2,L,u,C,M,O⟩:=Ar h hz;rw[ra]at u;rw[rb]at C;have Q:aJ (T::r) 0=T:=rfl;rw[Q,K]at C;have j:vsizes v.args<=20000000:=by rw[e]at hZ;have:=hZ.hd;have:=jb v;omega
  have o:∀y∈l,y∈m.st:=λy g=>by simp[e,g]
  rcases q with q|⟨y,q,fA⟩
  .exact key r v.args l 0 a v e (by rw[J];rfl) (by unfold ru;rw[P,oa,if_pos c.1,q];rfl) od (by rw[q];exact G) OK o j ⟨g1,F,u,M⟩
  .exact key (A::r) v.args l 1 b v e (by rw[J];rfl) (by unfold ru;rw[P,oa,if_pos c.1,q];rfl) od (by rw[q];exact⟨fA,G⟩) OK o j ⟨g2,L,C,O⟩
 split at h
 .rename_i c;obtain⟨T,r,rfl,D⟩:=fZ c.2;have⟨v,l,e,k,G⟩:=av hf;have⟨A,K,Z,q⟩:=xG k (D ot);have⟨g1,F,g2,L,u,C,M,O⟩:=Ar h hz;rw[ra]at u;rw[rb]at C;have Q:aJ (T::r) 0=T:=rfl;rw[Q,K]at u;have o:∀y∈l,y∈m.st:=λy g=>by simp[e,g]
  have aa:T =.nd 10 [A]:=by have⟨t,a⟩:=T;have:=D ot;simp only[Ty.t,Ty.args]at this K;rw[this,K]
  have E:ru t.p0 v=(match v.args with
   | []=>(1,[])
   | x::l=>(0,[x,mkV 10 l])):=by unfold ru;rw[P,oa,oa,oa];rfl
  have j:=jb v;rw[e]at hZ;have:=hZ.hd;rw[<-e]at hZ
  cases I:v.args with
  | nil =>
   rw[I]at E;exact key r [] l 1 b v e (by rw[J];rfl) E od G OK o (by simp[vsizes]) ⟨g2,L,C,O⟩
  | cons y ys =>
   rw[I]at E Z q j;refine key (A::T::r) [y,mkV 10 ys] l 0 a v e (by rw[J];rfl) E od ⟨q y oe,?_,G⟩ OK o (by simp only[vsizes,mkV,Va.size,tysizes,sizes]at j|-;omega) ⟨g1,F,u,M⟩;subst aa;exact EU (je k) (by simp at Z;omega) λy g=>q y (by simp[g])
 split at h
 .rename_i c;obtain⟨T,r,rfl,D⟩:=fZ c.2;have⟨v,l,e,k,G⟩:=av hf;have⟨g1,F,g2,L,u,C,M,O⟩:=Ar h hz;rw[ra]at u;rw[rb]at C;have o:∀y∈l,y∈m.st:=λy g=>by simp[e,g]
  have I:v.args=[]:=by have⟨ts,ha,an⟩:=(iO k).2.2.1;unfold bS at ha;simp[D ot,yU (je k) (by have:=D ot;omega)]at ha;exact ha.1
  have E:ru t.p0 v=(if v.n=1 then 0 else 1,[]):=by unfold ru;rw[P,oa,oa,if_pos c.1,I]
  by_cases hv:v.n=1
  .rw[if_pos hv]at E;exact key r [] l 0 a v e (by rw[J];rfl) E od G OK o (by simp[vsizes]) ⟨g1,F,u,M⟩
  .rw[if_neg hv]at E;exact key r [] l 1 b v e (by rw[J];rfl) E od G OK o (by simp[vsizes]) ⟨g2,L,C,O⟩
 .cases h
mutual
def zO(d:Nat):∀(t:Tr),bC (d+1) t=0->bC d t=0
 | .nd k n p s a,h=>by
  rw[bC]at h|-;split at h
  .cases h
  .split at h
   .rename_i b;exact absurd h b
   .rename_i b;rw[oa,if_neg b];exact xC (d+1) a h
def xC(d:Nat):∀(l:aE),bG (d+1) l=0->bG d l=0
 | [],_=>by rw[bG]
 | t::l,h=>by
  rw[bG]at h|-;split at h
  .rename_i a;exact absurd h a
  .rename_i a;have b:=zO d t (by simpa using a);rw[if_neg (by simpa using b)];exact xC d l h
end
def firstW_one:∀(d:Nat) {t:Tr},bC (d+1) t=0->bC 1 t=0
 | 0,_,h=>h
 | d+1,t,h=>firstW_one d (zO (d+1) t h)
def Qs(hk:c.k0=3)(j:bC (d+1) c=0)(l:c.size<=300):dS (.nd 3 0 0 ⟨#[]⟩ c.args0)=0:=by
 have i:=firstW_one d j;have⟨k,n,p,s,a⟩:=c;simp only[Tr.k0]at hk;subst hk;have e:=i;rw[bC]at e;have b:Lf.fD 3 n p s a.length=0:=by
  rw[if_neg ot]at e;split at e
  .rename_i b;exact absurd e b
  .rename_i b;simpa using b
 have f:Lf.qM 3 n p s a.length=false:=by
  unfold Lf.fD at b;rw[if_neg ot,if_neg oe]at b;split at b
  .cases b
  .rename_i f;simpa using f
 simp[Lf.qM]at f;obtain⟨rfl,rfl,g⟩:=f;have h:s=⟨#[]⟩:=g;subst h;unfold dS;show (if bC 1 (.nd 3 0 0 ⟨#[]⟩ a)≠0 then _ else _)=_;rw[if_neg (by simpa using i),if_neg (by simpa[Tr.size,Tr.args0]using l)]
def QI{N:Nat}(i:ai A=true)(hk:c.k0=3)(k:bC (d+1) c=0)(n:c.size<=300)(h:Ld c.args0 [A] [B])(hm:mintsTs c.args0=false):jG (.mk 14 0 0 ⟨#[]⟩ [] [A,B] c.args0)=true:=by
 have a:∃f x,iG (stepF 300) c.args0 false [A] =.ok f x/\(f=false->[B]=x):=by
  rcases h with⟨h,e⟩|⟨M,f,x,g,o,a,b⟩
  .exact⟨false,[A],by rw[h,iG],λ_=>e⟩
  .exact⟨f,x,Aq (leq_step M 300 g) _ _ _ _ _ a,b⟩
 obtain⟨f,x,a,b⟩:=a;have j:dS (.nd 3 0 0 ⟨#[]⟩ c.args0)=0:=Qs hk k n;generalize c.args0=l at *;have m:codeF (.nd 3 0 0 ⟨#[]⟩ l) [A] =.ok f x:=by unfold codeF;rw[if_neg (by simpa using j),if_neg (by simp[Tr.k0]),if_neg oe,if_pos (by simp[i])];exact a
 show (match codeF (.nd 3 0 0 ⟨#[]⟩ l) [A]with
  | .no _=>false
  | .ok f ts=>rU f ts B && !mintsTs l)=true
 rw[m];dsimp only;rw[hm];unfold rU
 cases f with
 | true=>rfl
 | false =>
  rw[<-b rfl];simp[sameT_refl]
def Nl[Nr](q:iY t=some i)(hk:i.p=60\/i.p=65\/i.p=66\/i.p=67\/i.p=68)
 (h:bP (λl s=>iG (stepF N) l false s) i s =.ok f x) (hx:x.length<=40) (hxg:x.all ai) (hN:N<300) (hsN:s.length+N<=340) (hgt:∃d,bC (d+1) t=0) (hst:t.size<=299) (C:f=false->z=x) (hc:Chn m.fr z S) (hf:FitS s m.st) (hZ:Sq m.st) (hm:ED m.aO)
 (hpd:m.paid=m0.paid+1) (h0:0<=m0.paid) (hg:m.paid<=aC) (hcost:(cost m.fr:Int)+2*t.size+600<=602*(m.paid+1)):tJ aC S m0 (mq t m):=by
 have hp:=ng q;have R:=fitS_len hf;have g:0<=m.paid/\(m.paid=0\/m.paid<=aC):=⟨od,.inr hg⟩;have n:∀c∈t.args0,vR c.args0/\sizes c.args0+2<=t.size:=λc hc=>by have⟨d,hd⟩:=hgt;have⟨⟨d2,O⟩,h3⟩:=qE (jq hd od) hc;exact⟨jq O od,Ej hc⟩
 have ad:=size_pos t;unfold bP at h;unfold mq;rw[hp]
 -- ITER over a list or a map
 have I:∀(T:Ty) (r:aw),s=T::r->i.p=60->T.t=10\/T.t=13->(∀E,(T.t=10->T.args=[E])->(T.t=13->E =.nd 11 T.args)->dM (λl s=>iG (stepF N) l false s) i (E::r) r r =.ok f x)->tJ aC S m0 (match m.st with
  | v::s=>.go { m with st:=s,fr:=⟨[],60,(dK t 0).args0,v.args⟩::m.fr }
  | []=>.stuck):=by
  intro T r Z W j hE;subst Z;have⟨v,l,e,G,w⟩:=av hf;have⟨a,o,J⟩:=Fq q (.inl W);have⟨E,P,X,q3,q4⟩:=Yv G j;simp only[js]at hsN;obtain⟨rfl,rfl,K⟩:=Al (r:=a.args0) (by unfold rowAt;rw[J];rfl) (hE E P X) od OK;have⟨g1,g2⟩:=n a (by rw[o];simp);rw[e,rD o];have V:=fitS_len w;rw[e]at hZ;refine⟨⟨⟨x,w,⟨⟨goodC_nil,g1,aaY hZ.h1 (by have:=pM G;omega),by show v.args.length<=342;omega⟩,z,.inr (.inl ⟨rfl,E,?_,?_,q4⟩),hc⟩⟩,hm,g,by rw[gB];simp only[sizes];omega,hZ.tl,by show l.length<=342;omega⟩,.inr hpd⟩
  .rw[C rfl];exact E8
  .rw[C rfl];exact K
 split at h
 .rename_i c;obtain⟨T,r,rfl,j⟩:=fZ c.2;rw[if_pos c.1];exact I T r rfl c.1 (.inl (j ot)) λE P _=>by have : aJ (T::r) 0=T:=rfl;rw[this,P (j ot)]at h;exact h
 split at h
 .rename_i c;obtain⟨T,r,rfl,j⟩:=fZ c.2;rw[if_pos c.1];exact I T r rfl c.1 (.inr (j ot)) λE _ X=>by rw[X (j ot)];exact h
 split at h
 .rename_i c;obtain⟨T,r,rfl,j⟩:=fZ c.2;have⟨v,l,e,G,w⟩:=av hf;have⟨a,o,J⟩:=Fq q (.inr (.inl c.1));simp only[js]at hsN;obtain⟨rfl,D,K⟩:=Al (r:=a.args0) (by unfold rowAt;rw[J];rfl) h od ov;have D:x=r:=D;have K:Ld a.args0 r (T::r):=K;have⟨g1,g2⟩:=n a (by rw[o];simp);have L:=YL (je G) (by have:=j ot;omega);rw[j ot]at L;rw[oa,if_pos c.1,rD o];refine⟨⟨⟨T::r,hf,⟨⟨goodC_nil,g1,λy F=>by simp at F,oe⟩,z,.inr (.inr (.inl ⟨rfl,?_,?_⟩)),hc⟩⟩,hm,g,by rw[gB];simp only[sizes];omega,hZ,by show m.st.length<=342;simp at R;omega⟩,.inr hpd⟩
  .rw[C rfl,D,<-L];exact E8
  .rw[C rfl,D,<-L];exact K
 split at h
 .rename_i c;have⟨a,b,k,o,J,Y,e4⟩:=aeI q c.1;have er:rowAt i 0=k.args0:=by unfold rowAt;rw[Y];rfl
  rw[J]at h;obtain⟨rfl,rfl,K⟩:=Al (r:=k.args0) er h od ov;rw[er]at c;have M:=fo hxg;have Q:=gX M;simp only[Ty.args,xj,qt]at Q;have⟨d,hd⟩:=hgt;have⟨⟨d2,O⟩,h3⟩:=qE (jq hd od) (show k∈t.args0 by rw[o];simp);have hM:=QI (N:=N) Q.1 e4 O od K c.2;rw[oa,oa,oa,oa,rD o,aec o,TD o];have ab:vsizes [Va.mk 14 0 0 ⟨#[]⟩ [] [kreadT a,kreadT b] k.args0]<=20000000:=by have h1:=(dE M).2.1;have O:=(jq O od).2;simp only[Ty.size,tysizes,vsizes,Va.size]at h1 O|-;omega
  exact Du (x:=.nd 14 [kreadT a,kreadT b]::s) (aU m.st [_] (λ_ h=>h) hm ab rfl ⟨Ua M hM,hf⟩) hx (by have:=C rfl;subst this;exact hc) hpd h0 hg od hm hZ
 split at h
 .rename_i c;obtain⟨T,U,r,rfl,_,hU⟩:=lT c.2.1;obtain⟨rfl,rfl⟩:=bN h;have⟨v,l,e,G,w⟩:=av hf;obtain⟨u,l,rfl,f2,w⟩:=av w;have⟨A,B,P,X,q3,q4⟩:=Lm f2 (hU ot);have⟨g1,g2,_⟩:=G7 X q4;have j:=sameT_eq _ _ c.2.2;have Y:aJ (T::U::r) 1=U:=rfl;rw[Y,P]at j;have j:T=A:=j;subst j;have C:=C rfl;rw[Y,P]at C;have V:=fitS_len w;simp only[js]at hsN;rw[oa,oa,oa,if_pos c.1,e];rw[e]at hZ;refine⟨⟨⟨[T],⟨G,trivial⟩,⟨⟨g1,goodC_nil,λy F=>hZ.tl.tl y (by simpa using F),by show l.reverse.length<=342;rw[qb3];omega⟩,z,.inr (.inr (.inr (.inr ⟨rfl,B,r,g2,by rw[jf6];exact w,C⟩))),hc⟩⟩,hm,g,?_,λy F=>?_,oe⟩,.inr hpd⟩
  .rw[gB];have:=g1.2;dsimp only;omega
  .simp only[qv]at F;subst F;exact hZ.h1
 split at h
 .rename_i c;obtain⟨T,r,rfl,j⟩:=fZ c.2;have⟨v,l,e,G,w⟩:=av hf;have⟨a,o,J⟩:=Fq q (.inr (.inr c.1));have⟨g1,g2⟩:=n a (by rw[o];simp);simp only[js]at hsN;have V:=fitS_len w;unfold l7 at h;rw[show rowAt i 0=a.args0 by unfold rowAt;rw[J];rfl]at h;split at h
  .cases h
  .rename_i aa ts H;split at h
   .cases h
   .rename_i ae;obtain⟨rfl,rfl⟩:=bN h;rw[oa,oa,if_pos c.1,e,rD o];rw[e]at hZ;refine⟨⟨⟨r,w,⟨⟨g1,goodC_nil,λy F=>?_,oe⟩,z,.inr (.inr (.inr (.inl ⟨rfl,T,v,ts,rfl,G,.inr ⟨N,aa,ts,od,by simp at H|-;omega,H,λ_=>rfl⟩,C rfl⟩))),hc⟩⟩,hm,g,by rw[gB];dsimp only;omega,hZ.tl,by show l.length<=342;omega⟩,.inr hpd⟩;simp only[qv]at F;subst F;exact hZ.h1
 .cases h
def step_ok[Nr](n:yH en)(l:keptF (stepF N t s) =.ok f x)(O:N<=300)(B:s.length+N<=341)(k:∃d,bC (d+1) t=0)(q:t.size<=299)(r:f=false->z=x)(hc:Chn m.fr z S)
 (hf:FitS s m.st) (hZ:Sq m.st) (hm:ED m.aO) (hlen:m.st.length<=342) (hp0:m.paid=m0.paid) (h0:0<=m0.paid/\(m0.paid=0\/m0.paid<=aC)) (hcost:cost m.fr+2*t.size<=cost m0.fr) (hc0:(cost m0.fr:Int)<=602*(m0.paid+1)):tJ aC S m0 (Iq en aC t m):=by
 have⟨h,A,b⟩:=nP l;unfold Iq
 cases N with
 | zero=>simp[stepF]at h
 | succ N =>
  rw[stepF]at h;split at h
  .rename_i hk;rw[if_pos hk];have⟨d,g⟩:=k;have u:=jq g od;have C:sizes t.args0+1=t.size:=by cases t;rfl
   refine⟨⟨⟨s,hf,⟨⟨u,goodC_nil,λy E=>by simp at E,oe⟩,z,.inl ⟨rfl,.inr ⟨N,f,x,od,od,h,r⟩⟩,hc⟩⟩,hm,by show 0<=m.paid/\(m.paid=0\/m.paid<=aC);omega,?_,hZ,hlen⟩,.inl ⟨hp0,?_⟩⟩
   .rw[gB];dsimp only;omega
   .rw[gB];dsimp only;omega
  .rename_i hk;rw[if_neg hk];split at h
   .cases h
   .rename_i i e;unfold uH;split
    .rename_i j;exact⟨od,.inr (.inr (.inl ⟨rfl,j⟩))⟩
    .rename_i j;have p:=ng e;have a:∀o:Out,f=false/\Does { m with paid:=m.paid+1 } x o->tJ aC S m0 o:=λo g =>
      Du g.2 A (by rw[<-r g.1];exact hc) (by show m.paid+1=_;omega) h0.1 (by show m.paid+1<=aC;omega) (by show (cost m.fr:Int)<=602*(m.paid+1+1);omega) hm hZ
     have w:=size_pos t;unfold vP at h;unfold Qy;rw[p];split at h
     .rename_i c;rw[if_pos c];exact a _ (QM p (UW e) c h hm hf hZ.sm)
     rename_i n1;rw[if_neg n1];split at h
     .rename_i c;rw[if_pos c];exact a _ (PZ (λhc=>⟨_,Kh e od⟩) h b hm hf hZ.sm)
     rename_i F;rw[if_neg F];split at h
     .rename_i c;rw[if_pos c];exact a _ (Jz (UZ e) h b hm hf hZ.sm)
     rename_i G;rw[if_neg G];split at h
     .rename_i c;rw[if_pos c];exact Jk p c (LV e c) h od od k q r hc hf hZ hm (by show m.paid+1=_;omega) h0.1 (by show m.paid+1<=aC;omega) (by show (cost m.fr:Int)+2*t.size<=602*(m.paid+1+1);omega)
     rename_i H;rw[if_neg H];split at h
     .rename_i c;rw[if_pos c];exact Nl e c h A b od od k q r hc hf hZ hm (by show m.paid+1=_;omega) h0.1 (by show m.paid+1<=aC;omega) (by show (cost m.fr:Int)+2*t.size+600<=602*(m.paid+1+1);omega)
     rename_i I;rw[if_neg I];split at h
     .rename_i c;rw[if_pos c];exact a _ (Ki h b hm hf hZ.sm)
     rename_i J;rw[if_neg J];split at h
     .rename_i c;rw[if_pos c];exact a _ (TG c h hm hf hZ.sm)
     rename_i K;rw[if_neg K];split at h
     .rename_i c;rw[if_pos c];rcases OC (m:={ m with paid:=m.paid+1 }) p (λhc=>by rcases hc with hc|hc;exact (LW e hc).1;exact Kh e od) (λhc=>(LW e hc).2) c h b hm hf hZ.sm with g|⟨v,g,D⟩
      .exact a _ g
      .rw[g];exact⟨by show 0<=m.paid+1/\(m.paid+1=0\/m.paid+1<=aC);omega,.inl ⟨rfl,D⟩⟩
     rename_i L;rw[if_neg L];split at h
     .rename_i c;rw[if_pos c];exact a _ (KP n c h b hm hf hZ.sm)
     rename_i M;rw[if_neg M];exact a _ (RI n p (λhc=>Kh e od) h hm hf hZ.sm)
def GQ[Nr]{f:Fr}{j:List Fr}(W:WT aC S m)(Q:S.length<=342)(w:m.fr=f::j)(p:f.rest=[]):tJ aC S m (Bz aC f j m):=by
 have⟨⟨s,hF,q⟩,K,L,H,k,J⟩:=W;rw[w]at q H;rw[gB,p]at H;simp only[sizes]at H;have I:cost m.fr=1+cost j:=by rw[w,gB,p];simp[sizes]
 have⟨⟨g1,g2,o,B⟩,z,R,q⟩:=q;have A:=OM q Q;have n:=g2.2
 -- the frame goes
 have i:∀l:ao,FitS z l->Sq l->tJ aC S m (.go { m with st:=l,fr:=j }):=λl t C =>
  ⟨⟨⟨z,t,q⟩,K,L,by show (cost j:Int)<=602*(m.paid+1);omega,C,by show l.length<=342;have:=fitS_len t;omega⟩,.inl ⟨rfl,by show cost j<cost m.fr;omega⟩⟩
 -- the row is gone through b
 have b:∀(g:Fr) (l:ao) (y:aw),FitS y l->Sq l->y.length<=342->sizes g.rest<=299->Zo g->YO g y z->tJ aC S m (uH aC { m with st:=l,fr:=g::j } .go):=by
  intro g l y t C a Y O P;unfold uH;split
  .rename_i c;exact⟨L,.inr (.inr (.inl ⟨rfl,c⟩))⟩
  .rename_i c;simp only[Int.not_le]at c;refine⟨⟨⟨y,t,O,z,P,q⟩,K,by show 0<=m.paid+1/\(m.paid+1=0\/m.paid+1<=aC);have : m.paid<aC:=c;omega,?_,C,by show l.length<=342;have:=fitS_len t;omega⟩,.inr rfl⟩;show (cost (g::j):Int)<=602*(m.paid+1+1);rw[gB];omega
 unfold Bz;rcases R with⟨h,d⟩|⟨h,E,d,r,D⟩|⟨h,d,r⟩|⟨h,T,v,y,N,G,d,rfl⟩|⟨h,T,u,d,V,rfl⟩
 .rw[p]at d;have:=Bw d;subst this;rw[oa,oa,oa,oa];exact i m.st hF k
 .rw[p]at d;have:=Bw d;subst this;rw[if_pos h]
  cases U:f.aside with
  | nil=>exact i m.st hF k
  | cons x l =>
   rw[U]at D o B;have F:(E::z).length<=342:=by
    rcases wJ r with h|h
    .have:=congrArg List.length h;simp at this
    .omega
   exact b ⟨f.row,60,f.row,l⟩ (x::m.st) (E::z) ⟨D x oe,hF⟩ (λy a=>by
    rcases kl.1 a with rfl|a
    .exact o.h1
    .exact k y a) F n ⟨g2,g2,o.tl,by simp at B;show l.length<=342;omega⟩ (.inr (.inl ⟨rfl,E,r,r,λy a=>D y (by simp[a])⟩))
 .rw[p]at d;have:=Bw d;subst this;rw[oa,if_pos h];have⟨v,l,e,X,M⟩:=av hF;rw[e]at k|-;dsimp only;split
  .exact b ⟨f.row,65,f.row,f.aside⟩ l z M k.tl A n ⟨g2,g2,o,B⟩ (.inr (.inr (.inl ⟨rfl,r,r⟩)))
  .exact i l M k.tl
 .rw[p]at d;have:=Bw d;subst this;rw[oa,oa,if_pos h,N];rw[N]at o;exact i (v::m.st) ⟨G,hF⟩ (λy a=>by
   rcases kl.1 a with rfl|a
   .exact o.h1
   .exact k y a)
 .rw[p]at d;have:=Bw d;subst this;rw[oa,oa,oa,if_pos h];refine i (m.st++f.aside.reverse) (fitS_app hF V) (λy a=>?_);rcases ki.1 a with a|a
  .exact k y a
  .exact o y (by simpa using a)
def GD{f:Fr}{n:Tr}{l:aE}(A:f.rest=n::l)(h:YO f s z):∃N g x y,N<=300/\s.length+N<=341/\keptF (stepF N n s) =.ok g x/\(g=false->y=x)/\YO ⟨l,f.op,f.row,f.aside⟩ y z:=by
 have key:∀w,Ld f.rest s w->∃N g x y,N<=300/\s.length+N<=341/\keptF (stepF N n s) =.ok g x/\(g=false->y=x)/\Ld l y w:=by
  intro w o;rw[A]at o;have D:=o;have⟨N,g,x,p,q,r,j⟩:=Uj o;rcases j with⟨rfl,j⟩|⟨rfl,rfl⟩
  .exact⟨N,false,x,x,p,q,r,λ_=>rfl,j⟩
  .exact⟨N,true,x,w,p,q,r,λh=>(by cases h),E8⟩
 rcases h with⟨h,i⟩|⟨h,E,i,k,t⟩|⟨h,i,k⟩|⟨h,T,v,y,C,m,i,rfl⟩|⟨h,T,u,i,B,rfl⟩
 .have⟨N,g,x,y,a,b,c,d,e⟩:=key _ i;exact⟨N,g,x,y,a,b,c,d,.inl ⟨h,e⟩⟩
 .have⟨N,g,x,y,a,b,c,d,e⟩:=key _ i;exact⟨N,g,x,y,a,b,c,d,.inr (.inl ⟨h,E,e,k,t⟩)⟩
 .have⟨N,g,x,y,a,b,c,d,e⟩:=key _ i;exact⟨N,g,x,y,a,b,c,d,.inr (.inr (.inl ⟨h,e,k⟩))⟩
 .have⟨N,g,x,F,a,b,c,d,e⟩:=key _ i;exact⟨N,g,x,F,a,b,c,d,.inr (.inr (.inr (.inl ⟨h,T,v,y,C,m,e,rfl⟩)))⟩
 .have⟨N,g,x,y,a,b,c,d,e⟩:=key _ i;exact⟨N,g,x,y,a,b,c,d,.inr (.inr (.inr (.inr ⟨h,T,u,e,B,rfl⟩)))⟩
def Fa[Nr](o:yH en)(q:WT aC S m)(w:S.length<=342)(p:m.fr≠[]):tJ aC S m (uB en aC m):=by
 unfold uB
 cases h:m.fr with
 | nil=>exact absurd h p
 | cons f fs =>
  dsimp only
  cases k:f.rest with
  | nil=>exact GQ q w h k
  | cons n l =>
   dsimp only;have⟨⟨s,hF,j⟩,D,E,C,B,i⟩:=q;rw[h]at j;have⟨⟨g1,g2,r,t⟩,z,A,j⟩:=j;have⟨N,g,x,y,a,b,c,d,e⟩:=GD k A;rw[k]at g1;have⟨u,v⟩:=qE g1 (show n∈n::l by simp);refine step_ok o c a b u v d (m:={ m with fr:=⟨l,f.op,f.row,f.aside⟩::fs }) ⟨⟨JA g1,g2,r,t⟩,z,e,j⟩ hF B D i rfl E ?_ C;show cost (⟨l,f.op,f.row,f.aside⟩::fs)+2*n.size<=cost m.fr;rw[h,gB,gB,k,sizes];dsimp only;omega
def Done [Nr] (aC:Int) (S:aw):Out->Prop
 | .stuck=>False
 | .no e m=>Ends aC e m
 | .go m=>FitS S m.st/\ED m.aO/\0<=m.paid/\(m.paid=0\/m.paid<=aC)/\Sq m.st/\m.st.length<=342
def VE[Nr](j:yH en)(t:S.length<=342)(k:Nat):∀(m:Ma),(aC - m.paid).toNat*(602*(aC.toNat+1)+1)+cost m.fr<k->WT aC S m->∃N,Done aC S (fq en aC N m):=by
 induction k with
 | zero=>intro m h;omega
 | succ k w =>
  intro m v b
  cases a:m.fr with
  | nil =>
   refine⟨1,?_⟩;rw[fq,a];have⟨s,hF,o⟩:=b.typed;rw[a]at o;rw[show s=S from o]at hF;exact⟨hF,b.aO,b.paid.1,b.paid.2,b.small,b.len⟩
  | cons f fs =>
   have d:=Fa j b t (by rw[a];simp)
   cases i:uB en aC m with
   | stuck=>rw[i]at d;exact d.elim
   | no e g=>rw[i]at d;exact⟨1,by rw[fq,a,i];exact d⟩
   | go g =>
    rw[i]at d;have⟨c,n⟩:=d;have l:(aC - g.paid).toNat*(602*(aC.toNat+1)+1)+cost g.fr<k:=by
     rcases n with⟨e,u⟩|e
     .rw[e];omega
     .have y:=c.paid;have u:=c.cost;have x:=b.paid.1;have⟨q,p⟩:∃q,(aC - m.paid).toNat=q+1/\(aC - g.paid).toNat=q:=⟨(aC - g.paid).toNat,od,rfl⟩;rw[p.1,Nat.succ_mul]at v;rw[p.2];omega
    have⟨N,r⟩:=w g l c;exact⟨N+1,by rw[fq,a,i];exact r⟩
def Ev: ∀(N:Nat) (m:Ma),fq en aC N m ≠ .stuck->fq en aC (N+1) m=fq en aC N m
 | 0,m,h=>by simp[fq]at h
 | N+1,m,h=>by
  rw[fq]at h|-
  conv=>rhs;rw[fq]
  split
  .rfl
  .rename_i a;rw[a]at h;dsimp only at h
   cases c:uB en aC m with
   | stuck=>rfl
   | no e b=>rfl
   | go b=>rw[c]at h;exact Ev N b h
def Ew(N M:Nat)(h:fq en aC N m ≠ .stuck)(b:N<=M):fq en aC M m=fq en aC N m:=by
 obtain⟨k,rfl⟩:∃k,M=N+k:=⟨M - N,od⟩;clear b
 induction k with
 | zero=>rfl
 | succ k a=>rw[<-qg2,Ev _ _ (by rw[a];exact h),a]
def jO (st:ao) (code:aE):Ma:=⟨0,0,zeroVa,st,[⟨code,0,[],[]⟩]⟩
def Gg[Nr]{n:Tr}{st:ao}(h:codeF n s =.ok f x)(j:f=false->z=x)(d:FitS s st)(g:Sq st):WT aC z (jO st n.args0):=by
 unfold codeF at h;split at h
 .cases h
 rename_i b;have b:dS n=0:=by simpa using b
 split at h
 .cases h
 split at h
 .cases h
 rename_i e;split at h
 .have c:=iV b;have a:=jq c.1 c.2;refine⟨⟨s,d,⟨a,goodC_nil,λy i=>by simp[]at i,oe⟩,z,.inl ⟨rfl,.inr ⟨300,f,x,jj _,od,h,j⟩⟩,rfl⟩,⟨qf0 0,show (0:Int)<=1152921504606846976 by decide⟩,⟨qf0 0,.inl rfl⟩,?_,g,?_⟩
  .show (cost [⟨n.args0,0,[],[]⟩]:Int)<=602*(0+1);rw[gB];have:=a.2;simp only[cost,qh5,List.sum_nil];omega
  .show st.length<=342;have:=fitS_len d;omega
 .cases h
instance nrT:Nr:=⟨λ_=>True,λ_ _ _ _ _=>trivial,λ_ _ _ _ _=>trivial⟩
def abM(h:Sm l):Sq l:=λv a=>⟨h v a,trivial⟩
