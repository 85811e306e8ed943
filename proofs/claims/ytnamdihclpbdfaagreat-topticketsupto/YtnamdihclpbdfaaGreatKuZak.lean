import Derived.Test.YtnamdihclpbdfaaGreatKuZaj
import Derived.WalkSpells
namespace Go.Proofs.YtnamdihclpbdfaaGreat
set_option linter.all false
open Go.Proofs.Tryz
class Wt where
 q:Int->Bool
variable [Wt]
mutual
def tkV:Va->Nat
 | .mk k n a s args types code=>(if k=15 then (if Wt.q a then n.toNat else 0)else 0)+tkVs args
def tkVs:ao->Nat
 | []=>0
 | x::xs=>tkV x+tkVs xs
end
def zU(v:Va):tkV v=(if v.k=15 then (if Wt.q v.a then v.n.toNat else 0)else 0)+tkVs v.args:=by cases v;rw[tkV];rfl
def tkVs_app:∀a b:ao,tkVs (a++b)=tkVs a+tkVs b
 | [],b=>by simp[tkVs]
 | x::a,b=>by rw[qd2,tkVs,tkVs,tkVs_app a b];omega
def qj(v:Va):tkVs v.args<=tkV v:=by rw[zU];omega
def tkVs_rev:∀l:ao,tkVs l.reverse=tkVs l
 | []=>rfl
 | x::l=>by rw[qd1,tkVs_app,tkVs_rev l];simp only[tkVs];omega
def ad7{a x:Va}{l:ao}(e:a.args=x::l):tkV x+tkVs l<=tkV a:=by have:=qj a;rw[e,tkVs]at this;exact this
def tk_mem:∀{l:ao}{x:Va},x∈l->tkV x<=tkVs l
 | y::l,x,h=>by
  rw[tkVs];rcases kl.1 h with rfl|h
  .omega
  .have:=tk_mem h;omega
def afv{l:ao}{i:Nat}{v:Va}(h:l[i]?=some v):tkVs (l.eraseIdx i)+tkV v=tkVs l:=by obtain⟨a,rfl⟩:=qT.1 h;have e:=congrArg tkVs (qc6 i l);rw[jg5,tkVs_app];rw[tkVs_app,km a,tkVs]at e;omega
def aea(l:ao)(i:Nat):tkVs (l.take i)+tkVs (l.drop i)=tkVs l:=by rw[<-tkVs_app,qc6]
def ae1(l:ao)(i:Nat):tkVs (l.drop i)<=tkVs l:=by have:=aea l i;omega
def afq{l:ao}{key:Va}{a:ao}(h:a.length<=1):tkVs (uO l key a)<=tkVs l+tkV key+tkVs a:=by
 unfold uO;rw[tkVs_app,tkVs_app];have b:=aea l (j4 l key);have c:tkVs (l.drop (if fJ l key then j4 l key+1 else j4 l key))<=tkVs (l.drop (j4 l key)):=by
  split
  .rw[<-List.drop_drop];exact ae1 _ _
  .exact jj _
 have d:tkVs (a.map (aY key))<=tkV key+tkVs a:=by
  match a,h with
  | [],_=>simp[tkVs]
  | [v],_=>simp[aY,mkV,tkVs,tkV]
  | _::_::_,h=>simp at h
 omega
def afr(p:Int)(v:Va):tkVs (ru p v).2<=tkV v:=by
 have:=qj v;unfold ru
 repeat' split
 all_goals first
  | exact this
  | (simp[tkVs];done)
  | (rename_i e;rw[e,tkVs]at this;rw[tkVs,tkVs,tkVs,mkV,tkV,if_neg ot];omega)
section
variable {f g:Int->Bool}
mutual
def ac4(h:∀t,f t->g t):∀T:Ty,sW Bq f T->sW Ap g T
 | .nd t a,e=>by
  rw[sW,qt]at e|-;have b:ow Bq f a:=by simpa[Bq]using e.2
  exact⟨h t e.1,by rw[XZ h a b];simp⟩
def XZ(h:∀t,f t->g t):∀l:aw,ow Bq f l->ow Ap g l
 | [],_=>rfl
 | T::l,e=>by rw[ow,qt]at e|-;exact⟨ac4 h T e.1,XZ h l e.2⟩
end
end
def aep{T:Ty}(h:oF T):A7 T:=ac4 (λt a=>by simp only[Qd,Qe,jt]at a|-;omega) T h
def Yy{l:List Ty}(h:ow Ap Qe l=true)(i:Nat):A7 (aJ l i)=true:=by
 unfold aJ;rw[yL,kd]at h
 cases e:l[i]? with
 | none=>rfl
 | some U=>exact h U (ka e)
def aeq{T:Ty}{v:Va}{ts:aw}(hc:A7 T)(h:bS T v=some ts):∀U∈ts,A7 U:=by
 have⟨t,d⟩:=T;unfold A7 at hc;rw[sW,qt]at hc;have⟨e,f⟩:=hc;simp only[Qe,jt]at e;unfold bS at h;simp only at h;rw[if_neg (show ¬(Ty.nd t d).t=8 from e.2)]at h;have b:t≠14->ow Ap Qe d:=λc=>by simpa[Ap,c]using f
 intro U a
 repeat' split at h
 all_goals first
  | (cases h;done)
  | (simp only[qq]at h;subst h)
 all_goals simp only[Ty.t,Ty.args]at *
 all_goals first
  | (simp at a;done)
  | (rw[List.mem_replicate]at a;rw[a.2];exact Yy (b od) 0)
  | (rw[List.mem_replicate]at a;rw[a.2];unfold A7;rw[sW,b od];rfl)
  | (rw[qv]at a;subst a;exact Yy (b od) _)
  | (have:=b od;rw[yL,kd]at this;exact this U a)
mutual
def tk_zero:∀(v:Va) (T:Ty),hasV v T->A7 T->tkV v=0
 | .mk k n a s b c d,T,h,e=>by
  rw[hasV]at h;simp only[qt]at h
  cases g:bS T (.mk k n a s b c d)with
  | none=>rw[g]at h;simp at h
  | some j =>
   rw[g]at h;have i:k=T.t:=by have:=h.1.1;simp only[eX,qt,jt]at this;exact this.1.1.1.1.1
   have f:k≠15:=by have⟨t,l⟩:=T;unfold A7 at e;rw[sW,qt]at e;have:=e.1;simp only[Qe,jt]at this;simp only[Ty.t]at i;omega
   rw[tkV,if_neg f,tks_zero b j h.1.2 (aeq e g)]
def tks_zero:∀(l:ao) (ts:aw),hasVs l ts->(∀U∈ts,A7 U)->tkVs l=0
 | [],_,_,_=>rfl
 | v::l,[],h,_=>by simp[hasVs]at h
 | v::l,T::ts,h,a=>by simp only[hasVs,qt]at h;rw[tkVs,tk_zero v T h.1 (a T oe),tks_zero l ts h.2 λU b=>a U (by simp[b])]
end
def KU{T:Ty}{v:Va}(h:pY T v)(hc:A7 T):tkV v=0:=by unfold pY at h;rw[qt]at h;exact tk_zero v T h.2 hc
def ady{T:Ty}{v:Va}(h:Fit T v)(hc:A7 T):tkV v=0:=by unfold Fit qC at h;rw[qt]at h;exact KU h.1 hc
def C8{T:Ty}{v:Va}(h:Fit T v)(a:T.t=15):tkVs v.args=0:=by have⟨A,x,b,d,e,_⟩:=xH h a;have c:=(dE (je h)).2.2;have⟨t,args⟩:=T;simp only[Ty.t,Ty.args]at a b;subst a;subst b;simp only[keyedF,uZ,headComp,qt]at c;rw[d,tkVs,ady e (aep (by simpa using c.1))];rfl
structure TC (n:Tr) (st:ao):Prop where
 dup:n.p0=41->∀v,st[(dK n 0).n0.toNat - 1]?=some v->tkV v=0
 push:n.p0=45->∀v,jf (kreadT (dK n 0)) (dK n 1)=some v->tkV v=0
 unp:n.p0=82->∀l v,jw (kreadT (dK n 0)) l=some v->tkV v=0
 upd:n.p0=63->∀a b s,st=a::b::s->b.args.length<=1
 Ze:n.p0=84->∀a b s,st=a::b::s->0<=b.n
 rd:n.p0=85\/n.p0=86->∀a s,st=a::s->a.k=15/\tkVs a.args=0
 jn:n.p0=87->∀a s,st=a::s->∀y z r,a.args=y::z::r->y.k=15/\z.k=15
 spl:n.p0=86->∀a b s,st=a::b::s->∀y z r,b.args=y::z::r->(0<=y.n/\y.n<=1152921504606846976)/\0<=z.n/\z.n<=1152921504606846976
def afu{N:Nat}{n:Tr}{s x:aw}{f:Bool}{st:ao}(h:keptF (stepF N n s) =.ok f x)(W:n.k0≠3)(k:FitS s st):TC n st:=by
 have⟨h,_,_⟩:=nP h
 cases N with
 | zero=>simp[stepF]at h
 | succ N =>
  rw[stepF,if_neg W]at h;split at h
  .cases h
  .rename_i i M;have hp:=ng M;constructor
   .intro d v m;have⟨S,Z⟩:=UW M od;have d:i.p=41:=by omega
    simp only[vP,dG,d,Int.reduceEq,false_or,or_true,or_false,if_true,jd4,if_false,true_and]at h;split at h
    .rename_i c;have⟨w,X,hF⟩:=fitS_get k (i.n.toNat - 1) od;rw[<-S,X]at m;cases m;refine ady hF ?_;have:=c.2.2;rwa [Ep od]at this
    .cases h
   .intro d v m;have d:i.p=45:=by omega
    simp only[vP,cZ,d,Int.reduceEq,false_or,or_true,or_false,if_true,jd4,if_false,true_and]at h;split at h
    .rename_i c;rw[(LW M d).1]at c;exact KU (vC m).1 (YK _ c.1)
    .cases h
   .intro d l v m;exact KU (wQ m).1 (YK _ (wQ m).2.1)
   .intro d a b r e;have d:i.p=63:=by omega
    simp only[vP,aP,d,Int.reduceEq,false_or,or_true,or_false,if_true,jd4,if_false,true_and]at h;split at h
    .rename_i c;obtain⟨T,U,V,r,rfl,_,o,hV⟩:=Kt c.1;subst e;have⟨C,_,G⟩:=EW k.2.1 (o ot);rcases G with G|⟨q,G,_⟩<;>rw[G]<;>simp
    .cases h
   .intro d a b r e;have d:i.p=84:=by omega
    simp only[vP,bF,d,Int.reduceEq,false_or,or_true,or_false,if_true,jd4,if_false,true_and]at h;split at h
    .rename_i c;obtain⟨T,U,r,rfl,_,o⟩:=lT c.1;subst e;exact (qd k.2.1 (.inr (.inl (o ot)))).2.2 (by have:=o ot;omega)
    .cases h
   .intro d a r e;have D:standF s [15]\/standF s [15,11]:=by
     rcases d with d|d
     .have d:i.p=85:=by omega
      simp only[vP,bF,d,Int.reduceEq,false_or,or_true,or_false,if_true,jd4,if_false,true_and]at h;split at h
      .rename_i c;exact .inl c
      .cases h
     .have d:i.p=86:=by omega
      simp only[vP,bF,d,Int.reduceEq,false_or,or_true,or_false,if_true,jd4,if_false,true_and]at h;split at h
      .rename_i c;exact .inr c.1
      .cases h
    have : ∃T H,s=T::H/\T.t=15:=by
     rcases D with D|D
     .have⟨T,r,e,g⟩:=fZ D;exact⟨T,r,e,g ot⟩
     .have⟨T,U,r,e,g,_⟩:=lT D;exact⟨T,_,e,g ot⟩
    obtain⟨T,H,rfl,g⟩:=this;subst e;exact⟨(pM k.1).trans g,C8 k.1 g⟩
   .intro d a r e y z Y j;have d:i.p=87:=by omega
    simp only[vP,bF,d,Int.reduceEq,false_or,or_true,or_false,if_true,jd4,if_false,true_and]at h;split at h
    .rename_i c;obtain⟨T,r,rfl,g⟩:=fZ c.1;subst e;have⟨B,C,p,q,I,J,K,L⟩:=uX k.1 (g ot);have u:standF T.args [15,15]:=c.2.1;rw[I]at u;have⟨Q,R,H,A,E,F⟩:=lT u;simp only[qa5]at A;obtain⟨rfl,rfl,rfl⟩:=A;rw[J]at j;simp only[qa5]at j;obtain⟨rfl,rfl,_⟩:=j;exact⟨(pM K).trans (E ot),(pM L).trans (F ot)⟩
    .cases h
   .intro d a b r e y z Y j;have d:i.p=86:=by omega
    simp only[vP,bF,d,Int.reduceEq,false_or,or_true,or_false,if_true,jd4,if_false,true_and]at h;split at h
    .rename_i c;obtain⟨T,U,r,rfl,g,o⟩:=lT c.1;subst e;have⟨B,C,p,q,I,J,K,L⟩:=uX k.2.1 (o ot);have u:standF U.args [4,4]:=c.2;rw[I]at u;have⟨Q,R,H,A,E,F⟩:=lT u;simp only[qa5]at A;obtain⟨rfl,rfl,rfl⟩:=A;have⟨_,p2,O⟩:=qd K (.inr (.inl (E ot)));have⟨_,q2,P⟩:=qd L (.inr (.inl (F ot)));have O:=O (by have:=E ot;omega);have P:=P (by have:=F ot;omega);rw[J]at j;simp only[qa5]at j;obtain⟨rfl,rfl,_⟩:=j;omega
    .cases h
def tkF:List Fr->Nat
 | []=>0
 | f::l=>tkVs f.aside+tkF l
def RJ (b:Bool) (n:Int):Int:=if b then n else 0
def tkM (b:Bool) (m:Ma):Int:=(tkVs m.st+tkF m.fr:Nat) - RJ b m.aO
def TK (b:Bool) (c:Int):Out->Prop
 | .stuck=>True
 | .no _ _=>True
 | .go m=>tkM b m<=c
variable {b:Bool}
section
variable {p mi:Int}{sd:Va}{st:ao}{F:List Fr}{c:Int}
def j5(l:ao)(h:((tkVs l+tkVs st+tkF F:Nat):Int) - RJ b mi<=c):TK b c (bz ⟨p,mi,sd,st,F⟩ l):=by
 unfold bz
 repeat' split
 all_goals first|exact trivial|(simp only[TK,tkM,tkVs_app];exact h)
def tk_stuck:TK b c .stuck:=trivial
def afb{e:Int}{m:Ma} : TK b c (.no e m):=trivial
def ad6(h:((tkVs st+tkF F:Nat):Int) - RJ b mi<=c):TK b c (.go ⟨p,mi,sd,st,F⟩):=h
def afo{q:Prop}[Decidable q]{x y:Out}(h:q->TK b c x)(k:¬q->TK b c y):TK b c (if q then x else y):=by split<;>rename_i e;exact h e;exact k e
end
def QU{k n:Int}(h:k≠15):tkV (aW k n)=0:=by simp[aW,tkV,tkVs,h]
def aez(a b:Int):(rH a b).1≠15/\(rH a b).2≠15:=by
 unfold rH;repeat' split
 all_goals decide
def aeW(p a b:Int):mK p a b≠15:=by
 unfold mK;repeat' split
 all_goals decide
def abo{a b:Int}(h:(addN a b).2=0):(addN a b).1=a+b:=by
 unfold addN kF at *
 repeat' split at h
 all_goals first|(cases h;done)|(split<;>first|rfl|simp_all)
def afn(en:En)(hb:Wt.q en.self=true->b=true){n:Tr}{m:Ma}(h:TC n m.st):TK b (tkM b m) (Qy en n m):=by
 obtain⟨p,mi,sd,st,fr⟩:=m;simp only at h;unfold Qy;simp only[tkM]
 repeat' (with_reducible first|exact tk_stuck|exact afb|(apply afo<;>intro _)|split|(first|unfold p9|unfold l8|unfold fG|unfold gJ|unfold mq|unfold gL|unfold xm|unfold jQ|unfold iB|unfold iw|unfold jP|unfold oV|unfold Gu);try dsimp only)
 all_goals first
  | exact ad6 (by simp only[*,zU,tkVs,tkVs_app,tkVs_rev,tkF];omega)
  | exact j5 _ (by simp only[*,zU,tkVs,tkVs_app,tkVs_rev,tkF,mkV,aW,aV,noneV,aY,di,aZ,nE,aM,Va.k,Va.n,Va.args,Int.reduceEq,if_true,if_false];omega)
  | skip
 .rename_i v e;exact j5 _ (by have:=h.dup oR v e;simp only[tkVs];omega)
 .rename_i v e;exact ad6 (by have:=afv e;simp only[tkVs];omega)
 .rename_i v s c;exact ad6 (by have:=aea s (dK n 0).n0.toNat;simp only[tkVs_app,tkVs];omega)
 .rename_i e;exact j5 _ (by have:=ad7 e;simp only[tkVs];omega)
 .rename_i e;exact j5 _ (by have:=ad7 e;simp only[tkVs]at this|-;omega)
 .rename_i e1 _ _ _ _ e;exact j5 _ (by have q:=ad7 e;have r:=xo (tk_mem (ka e1)) (qj _);simp only[tkVs]at q;rw[tkVs,tkVs,aV,mkV,tkV,if_neg ot];simp only[tkVs];omega)
 .rename_i a _ _ b _ _ _ c s _ _;have u:=afq (l:=c.args) (key:=a) (h.upd od a b _ rfl);have:=qj b;have:=qj c;exact j5 _ (by rw[tkVs,tkVs,mkV,tkV,if_neg ot];simp only[tkVs];omega)
 .rename_i v s _ _ _ _;exact j5 _ (by have:=afr n.p0 v;simp only[tkVs,tkF];omega)
 .exact j5 _ (by rw[tkVs,tkVs,aV,mkV,tkV,if_neg ot,tkVs,tkVs,aY,mkV,tkV,if_neg ot,tkVs,tkVs,tkVs,QU (aez _ _).1,QU (aez _ _).2];simp only[tkVs];omega)
 .exact j5 _ (by rw[tkVs,tkVs,QU (aeW _ _ _)];simp only[tkVs];omega)
 .rename_i v e;exact j5 _ (by have:=h.push oR v e;simp only[tkVs];omega)
 .rename_i v e;exact j5 _ (by have:=h.unp oR _ v e;rw[tkVs,tkVs,aV,mkV,tkV,if_neg ot];simp only[tkVs];omega)
 .rename_i a _ _ y s _ c;have q:=h.Ze oR a y _ rfl;have r:=abo c;have w:RJ b mi+(if Wt.q en.self=true then y.n.toNat else 0:Nat)<=RJ b (addN mi y.n).1:=by
   unfold RJ;rw[r]
   by_cases hq:Wt.q en.self=true
   .rw[if_pos hq,if_pos (hb hq),if_pos (hb hq)];omega
   .rw[if_neg hq];split<;>omega
  exact j5 _ OS
 .rename_i a s _ _ _ _ _ e;exact j5 _ (by have q:=(h.rd (.inl oR) a _ rfl).2;rw[e]at q;simp only[tkVs]at q;rw[tkVs,tkVs,tkVs,aY,mkV,tkV,if_neg ot,tkVs,tkVs,tkVs,QU ot,aY,mkV,tkV,if_neg ot,tkVs,tkVs,tkVs,QU ot];simp only[tkVs];omega)
 .rename_i a _ _ _ _ _ b s x l e1 _ y z _ e c;have q:=h.rd (.inr oR) a _ rfl;have u:=h.spl oR a b _ rfl y z _ e;have w:RowKit.wrap64 (y.n+z.n)=a.n:=by
   have:=(not_or.1 (not_or.1 c).2).2;simpa using this
  have w2:y.n+z.n=a.n:=by rw[<-w];unfold RowKit.wrap64;omega
  have v:=zU a;rw[if_pos q.1,q.2]at v;have q2:=q.2;rw[e1]at q2;simp only[tkVs]at q2;have w3:(if Wt.q a.a=true then y.n.toNat else 0)+(if Wt.q a.a=true then z.n.toNat else 0)=(if Wt.q a.a=true then a.n.toNat else 0):=by
   by_cases hq:Wt.q a.a=true
   .rw[if_pos hq,if_pos hq,if_pos hq];omega
   .rw[if_neg hq,if_neg hq,if_neg hq]
  exact j5 _ (by rw[tkVs,tkVs,aV,mkV,tkV,if_neg ot,tkVs,tkVs,aY,mkV,tkV,if_neg ot,tkVs,tkVs,tkVs,aM,tkV,if_pos rfl,aM,tkV,if_pos rfl];simp only[tkVs];omega)
 .rename_i a s _ _ _ _ y z _ e3 _ _ u _ x _ e1 e2 c0 c;have k:=h.jn od a _ rfl y z _ e3;have q:=ad7 e3;have q1:=ad7 e1;have r:=abo c;have v1:=zU y;have v2:=zU z;rw[if_pos k.1,e1,tkVs]at v1;rw[if_pos k.2]at v2;simp only[tkVs]at q;have hya:y.a=z.a:=by have:=(not_or.1 c0).1;simpa using this
  have w:(if Wt.q y.a=true then (addN y.n z.n).1.toNat else 0)<=(if Wt.q y.a=true then y.n.toNat else 0)+(if Wt.q z.a=true then z.n.toNat else 0):=by
   rw[<-hya]
   by_cases hq:Wt.q y.a=true
   .rw[if_pos hq,if_pos hq,if_pos hq];omega
   .rw[if_neg hq,if_neg hq,if_neg hq];omega
  exact j5 _ OS
def aeO{aC c:Int}{m:Ma}{k:Ma->Out}(h:TK b c (k { m with paid:=m.paid+1 })):TK b c (uH aC m k):=by
 unfold uH;split
 .exact afb
 .exact h
def aeN{aC:Int}{f:Fr}{a:List Fr}{m:Ma}(c:m.fr=f::a):TK b (tkM b m) (Bz aC f a m):=by
 have⟨p,mi,sd,st,fr⟩:=m;obtain rfl:fr=f::a:=c;unfold Bz;simp only[tkM,tkF]
 repeat' split
 all_goals first
  | exact tk_stuck
  | (refine aeO ?_;refine ad6 ?_)
  | refine ad6 ?_
 all_goals first
  | (rename_i e;rw[e];simp only[tkVs,tkF];omega)
  | ((try simp only[tkVs,tkVs_app,tkVs_rev,tkF]);omega)
def ae2{en:En}(hb:Wt.q en.self->b){aC:Int}{S:aw}{m:Ma}(o:WT aC S m):TK b (tkM b m) (uB en aC m):=by
 unfold uB;split
 .exact tk_stuck
 .rename_i f d a
  cases k:f.rest with
  | nil=>exact aeN a
  | cons n l =>
   have⟨s,hF,h⟩:=o.typed;rw[a]at h;have⟨_,z,j,_⟩:=h;have⟨N,g,x,y,_,_,c,_⟩:=GD k j;have e:tkM b { m with fr:=⟨l,f.op,f.row,f.aside⟩::d }=tkM b m:=by simp only[tkM,a,tkF]
   show TK b _ (Iq en aC n { m with fr:=⟨l,f.op,f.row,f.aside⟩::d });rw[<-e];unfold Iq;split
   .simp only[TK,tkM,tkF,tkVs];omega
   .rename_i i;refine aeO ?_;exact afn en hb (m:={ m with fr:=⟨l,f.op,f.row,f.aside⟩::d,paid:=m.paid+1 }) (afu c i hF)
def aeh{en:En}(hb:Wt.q en.self->b){aC:Int}{S:aw}(d:yH en)(k:S.length<=342):∀(N:Nat) (m c:Ma),WT aC S m->fq en aC N m =.go c->(tkVs c.st:Int) - RJ b c.aO<=tkM b m
 | 0,m,c,_,h=>by cases h
 | N+1,m,c,l,h=>by
  cases a:m.fr with
  | nil =>
   rw[fq,a]at h;cases h;simp only[tkM,a,tkF];omega
  | cons f o =>
   rw[fq,a]at h;have i:=Fa d l k (by rw[a];simp);have j:=ae2 (en:=en) hb l
   cases g:uB en aC m with
   | stuck=>rw[g]at h;cases h
   | no e n=>rw[g]at h;cases h
   | go n =>
    rw[g]at h i j;exact Int.le_trans (aeh hb d k N n c i.1 h) j
def mts_mem:∀{l:aE}{t:Tr},mintsTs l=false->t∈l->mintsT t=false
 | x::l,t,h,a=>by
  rw[mintsTs,ka6]at h;rcases kl.1 a with rfl|a
  .exact h.1
  .exact mts_mem h.2 a
def abJ{t:Tr}(h:mintsT t=false):mintsTs t.args0=false:=by have⟨k,n,p,s,a⟩:=t;rw[mintsT,ka6]at h;exact h.2
def ae8{n t:Tr}{i:Nat}(h:mintsT n=false)(a:n.args0[i]?=some t):mintsTs t.args0=false:=abJ (mts_mem (abJ h) (ka a))
def aeC{n:Tr}{i:Nat}(h:mintsT n=false):mintsTs (dK n i).args0=false:=by
 unfold dK
 cases e:n.args0[i]? with
 | none=>rfl
 | some t=>exact ae8 h e
def NM (l:List Fr):Prop:=∀f∈l,mintsTs f.rest=false/\mintsTs f.row=false
def NmR (k:Int):Out->Prop
 | .go m=>NM m.fr/\m.aO=k
 | _=>True
def NM.cons{f:Fr}{l:List Fr}(h:mintsTs f.rest=false/\mintsTs f.row=false)(k:NM l):NM (f::l):=λg a=>by
 rcases kl.1 a with rfl|a
 .exact h
 .exact k g a
section
variable {p mi k:Int}{sd:Va}{st:ao}{F:List Fr}
def aeF(l:ao)(h:NM F/\mi=k):NmR k (bz ⟨p,mi,sd,st,F⟩ l):=by
 unfold bz
 repeat' split
 all_goals first|exact trivial|exact h
def nm_stuck:NmR k .stuck:=trivial
def ae9{e:Int}{m:Ma} : NmR k (.no e m):=trivial
def Nq(h:NM F/\mi=k):NmR k (.go ⟨p,mi,sd,st,F⟩):=h
def afj{q:Prop}[Decidable q]{a b:Out}(h:q->NmR k a)(g:¬q->NmR k b):NmR k (if q then a else b):=by split<;>rename_i e;exact h e;exact g e
def aeE{aC:Int}{m:Ma}{K:Ma->Out}(h:NmR k (K { m with paid:=m.paid+1 })):NmR k (uH aC m K):=by
 unfold uH;split
 .exact ae9
 .exact h
end
def afi(en:En){n:Tr}{m:Ma}(d:n.k0=2)(hn:mintsT n=false)(hF:NM m.fr)(f:n.p0=67->∀a b s,m.st=a::b::s->mintsTs b.code=false):NmR m.aO (Qy en n m):=by
 have⟨p,mi,sd,st,fr⟩:=m;simp only at hF f|-;have c:n.p0≠84:=by have⟨k,i,q,z,a⟩:=n;rw[mintsT,ka6]at hn;have:=of_decide_eq_false hn.1;simp only[Tr.k0,Tr.p0]at d|-;exact λe=>this ⟨d,e⟩
 unfold Qy
 repeat' (with_reducible first|exact nm_stuck|exact ae9|(apply afj<;>intro _)|split|(first|unfold p9|unfold l8|unfold fG|unfold gJ|unfold mq|unfold gL|unfold xm|unfold jQ|unfold iB|unfold iw|unfold jP|unfold oV|unfold Gu);try dsimp only)
 all_goals first
  | exact aeF _ ⟨hF,rfl⟩
  | exact Nq ⟨hF,rfl⟩
  | (exfalso;exact c oR)
  | exact Nq ⟨.cons ⟨rfl,aeC hn⟩ hF,rfl⟩
  | exact Nq ⟨.cons ⟨aeC hn,rfl⟩ hF,rfl⟩
  | exact Nq ⟨.cons ⟨f oR _ _ _ (by first|assumption|rfl),rfl⟩ hF,rfl⟩
  | exact aeF _ ⟨.cons ⟨ae8 hn oR,rfl⟩ hF,rfl⟩
def aeD{aC:Int}{f:Fr}{a:List Fr}{m:Ma}(h:NM (f::a)):NmR m.aO (Bz aC f a m):=by
 have⟨p,mi,sd,st,e⟩:=m;have b:=h f oe;have c:NM a:=λg d=>h g (by simp[d]);unfold Bz
 repeat' split
 all_goals first
  | exact nm_stuck
  | exact Nq ⟨c,rfl⟩
  | exact aeE (Nq ⟨.cons ⟨b.2,b.2⟩ c,rfl⟩)
def aeU{N:Nat}{n:Tr}{s x:aw}{f:Bool}{st:ao}(h:keptF (stepF N n s) =.ok f x)(j:n.k0≠3)(l:FitS s st):n.k0=2/\(n.p0=67->∀a b r,st=a::b::r->mintsTs b.code=false):=by
 have⟨h,_,_⟩:=nP h
 cases N with
 | zero=>simp[stepF]at h
 | succ N =>
  rw[stepF,if_neg j]at h;split at h
  .cases h
  .rename_i i d;have q:=ng d;refine⟨?_,λg a b r e=>?_⟩
   .unfold iY at d;split at d
    .rename_i c;exact c.1
    .cases d
   .have g:i.p=67:=by omega
    simp only[vP,bP,g,Int.reduceEq,false_or,or_true,or_false,if_true,jd4,if_false,true_and]at h;split at h
    .rename_i c;obtain⟨T,U,v,rfl,_,k⟩:=lT c.1;subst e;have⟨A,B,t,m,u,o⟩:=Lm l.2.1 (k ot);exact (G7 m o).2.2
    .cases h
def aeZ[Nr]{en:En}{aC:Int}{S:aw}{m:Ma}(r:WT aC S m)(d:NM m.fr):NmR m.aO (uB en aC m):=by
 unfold uB;split
 .exact nm_stuck
 .rename_i f e b;rw[b]at d
  cases j:f.rest with
  | nil=>exact aeD d
  | cons n l =>
   have⟨s,hF,i⟩:=r.typed;rw[b]at i;have⟨_,z,p,_⟩:=i;have⟨N,g,x,y,_,_,c,_⟩:=GD j p;have a:=d f oe;rw[j,mintsTs,ka6]at a;have h:NM (⟨l,f.op,f.row,f.aside⟩::e):=.cons ⟨a.1.2,a.2⟩ λg q=>d g (by simp[q]);show NmR _ (Iq en aC n { m with fr:=⟨l,f.op,f.row,f.aside⟩::e });unfold Iq;split
   .exact Nq ⟨.cons ⟨abJ a.1.1,rfl⟩ h,rfl⟩
   .rename_i o;refine aeE ?_;have⟨k,ex⟩:=aeU c o hF;exact afi en (m:={ m with fr:=⟨l,f.op,f.row,f.aside⟩::e,paid:=m.paid+1 }) k a.1.1 h ex
def aed[Nr]{en:En}{aC:Int}{S:aw}(b:yH en)(j:S.length<=342):∀(N:Nat) (m c:Ma),WT aC S m->NM m.fr->fq en aC N m =.go c->c.aO=m.aO
 | 0,m,c,_,_,h=>by cases h
 | N+1,m,c,k,n,h=>by
  cases a:m.fr with
  | nil =>
   rw[fq,a]at h;cases h;rfl
  | cons f o =>
   rw[fq,a]at h;have i:=Fa b k j (by rw[a];simp);have d:=aeZ (en:=en) k n
   cases g:uB en aC m with
   | stuck=>rw[g]at h;cases h
   | no e l=>rw[g]at h;cases h
   | go l =>
    rw[g]at h i d;rw[aed b j N l c i.1 d.1 h];exact d.2
open Go.ChangeShapes Go.WideShapes Go.ChangeAt Go.RowKit Pe
def dw.Vf{ok:br}{w:cg}{ts:aw}{a:bj}{V:bt}(h:dw ok w ts a V)(c:Nat):∃vs:bo,vs.length=ts.length/\gZ w (.slice a ts.length c) ts.length (bX vs)/\(bX vs).length=ts.length*2/\(∀u∈bX vs,u.oneCell')/\∀(i:Nat) (t:Ty) (u:cm),ts[i]?=some t->vs[i]?=some u->aH ok w t u:=by
 let vs:=(List.range ts.length).map V
 have f:vs.length=ts.length:=by simp[vs]
 have n:∀i,i<ts.length->vs[i]?=some (V i):=λi g=>by simp[vs,g]
 have B:∀i,i<ts.length->∃t m l k,V i=Go.Proofs.YtnamdihclpbdfaaGreat.bY t m l k:=λi g=>by have⟨_,_,_,_,t,m,l,k,C,_⟩:=h.2.1 i g;exact⟨t,m,l,k,C⟩
 have D:∀u∈vs,∃t m l k,u=Go.Proofs.YtnamdihclpbdfaaGreat.bY t m l k:=λu d=>by simp only[vs,kB,List.mem_range]at d;obtain⟨i,g,rfl⟩:=d;exact B i g
 have p:∀u∈vs,(tyCells u).length=2:=λu d=>by obtain⟨t,m,l,k,rfl⟩:=D u d;rfl
 have v:∀(s:bo),(∀u∈s,(tyCells u).length=2)->(bX s).length=s.length*2:=λs=>by
  induction s with
  | nil=>intro _;rfl
  | cons x s I =>
   intro z;have J:=z x oe;have A:=I (λu d=>z u (by simp[d]));simp only[bX,qd5,jx,js]at A|-;omega
 refine⟨vs,f,?_,by rw[v vs p,f],λu d=>?_,λi t u y d=>?_⟩
 .cases a with
  | none =>
   have h0:ts.length=0:=by
    rcases Nat.eq_zero_or_pos ts.length with e|e
    .exact e
    .have⟨b,o,A⟩:=h.base e;cases A
   exact .inl ⟨c,by rw[h0],h0,by rw[jz (f.trans h0)];rfl⟩
  | some E =>
   refine .inr ⟨E,c,rfl,λj u d=>?_⟩;have H:j<(bX vs).length:=(qT.1 d).1;rw[v vs p,f]at H;have g:j / 2<ts.length:=od
   have⟨b,o,e,_,t,m,l,k,C,F,G⟩:=h.2.1 (j / 2) g;have r:=flatT_get vs p (j / 2) (j % 2) (V (j / 2)) (n _ g) od;rw[show j / 2*2+j % 2=j from by omega,d,C]at r;simp only[qq]at e;subst e;rcases (show j % 2=0\/j % 2=1 by omega)with q|q
   .rw[q]at r;simp[tyCells,Go.Proofs.YtnamdihclpbdfaaGreat.bY]at r;rw[r,<-F];rw[addr_add,show o+j=o+j / 2*2 from by omega]
   .rw[q]at r;simp[tyCells,Go.Proofs.YtnamdihclpbdfaaGreat.bY]at r;rw[r,<-G];rw[addr_add,show o+j=o+j / 2*2+1 from by omega]
 .simp only[bX,qb2]at d;have⟨x,z,d⟩:=d;obtain⟨t,m,l,k,rfl⟩:=D x z;simp[tyCells,Go.Proofs.YtnamdihclpbdfaaGreat.bY]at d;rcases d with rfl|rfl<;>rfl
 .have g:i<ts.length:=(qT.1 y).1;rw[n i g]at d;rw[qu g]at y;simp only[qq]at y d;subst y;subst d;exact h.2.2 i g
structure vN (ok:br) (W w:cg) (v:cm) (ts:aw) (vs:bo):Prop where
 own:zQ W.heap.size w v vs
 len:vs.length=ts.length
 lies:∀(i:Nat) (t:Ty) (u:cm),ts[i]?=some t->vs[i]?=some u->aH ok W t u
def vN.more{ok:br}{W w w':cg}{v v':cm}{ts us:aw}{vs ns:bo}(h:vN ok W w v ts vs)(e:zQ W.heap.size w' v' (vs++ns))(d:ns.length=us.length)(f:∀(i:Nat) (t:Ty) (u:cm),us[i]?=some t->ns[i]?=some u->aH ok W t u):vN ok W w' v' (ts++us) (vs++ns):=by
 refine⟨e,by simp[h.len,d],λi t u a b=>?_⟩
 by_cases c:i<ts.length
 .rw[zd c]at a;rw[zd (by rw[h.len];exact c)]at b;exact h.lies i t u a b
 .rw[xf od]at a;rw[xf (by rw[h.len];omega),h.len]at b;exact f _ t u a b
open Go.ChangeShapes Go.WideShapes Go.ChangeAt Go.RowKit
set_option maxRecDepth 100000
set_option maxHeartbeats 1000000
def Y8(w:cg)(a:bj)(n c:Nat):(binOp .eql 26 (.slice a n c) (.n0)).run prog w =.ok (.bool a.isNone) w:=by simp only[binOp];simp[Op.equal,Op.maxDepth,Lib.run_equalIn_slice_nil w 9999 26 62 a n c 0 0 underlying26]
attribute [local go_sem] Y8
structure IU (W w:cg) (v:cm) (ts:aE) (vs:bo):Prop where
 own:lh W.heap.size w v vs
 len:vs.length=ts.length
 lies:∀(i:Nat) (t:Tr) (u:cm),ts[i]?=some t->vs[i]?=some u->bI (λ_=>True) W t u
def IU.more{W w w':cg}{v v':cm}{ts us:aE}{vs ns:bo}(h:IU W w v ts vs)(e:lh W.heap.size w' v' (vs++ns))(d:ns.length=us.length)(f:∀(i:Nat) (t:Tr) (u:cm),us[i]?=some t->ns[i]?=some u->bI (λ_=>True) W t u):IU W w' v' (ts++us) (vs++ns):=by
 refine⟨e,by simp[h.len,d],λi t u a b=>?_⟩
 by_cases c:i<ts.length
 .rw[zd c]at a;rw[zd (by rw[h.len];exact c)]at b;exact h.lies i t u a b
 .rw[xf od]at a;rw[xf (by rw[h.len];omega),h.len]at b;exact f _ t u a b
def Ei{t:Tr} : ∀{l:aE},t∈l->t.size<=sizes l
 | x::l,h=>by
  simp only[sizes];rcases kl.1 h with rfl|h
  .omega
  .have:=Ei h;omega
def cK.Zk{ok:br}{w:cg}{ts:aE}{a:bj}{V:bt}(h:cK ok w ts a V)(c:Nat):∃vs:bo,vs.length=ts.length/\gZ w (.slice a ts.length c) ts.length (flat vs)/\(flat vs).length=ts.length*5/\(∀u∈flat vs,u.oneCell')/\∀(i:Nat) (t:Tr) (u:cm),ts[i]?=some t->vs[i]?=some u->bI ok w t u:=by
 let vs:=(List.range ts.length).map V
 have g:vs.length=ts.length:=by simp[vs]
 have y:∀i,i<ts.length->vs[i]?=some (V i):=λi m=>by simp[vs,m]
 have F:∀i,i<ts.length->∃k n p s r l v,V i=af k n p s r l v:=λi m=>by have⟨_,_,_,_,k,n,p,s,r,l,v,G,_⟩:=h.2.1 i m;exact⟨k,n,p,s,r,l,v,G⟩
 have H:∀u∈vs,∃k n p s r l v,u=af k n p s r l v:=λu d=>by simp only[vs,kB,List.mem_range]at d;obtain⟨i,m,rfl⟩:=d;exact F i m
 have z:∀u∈vs,(nodeCells u).length=5:=λu d=>by obtain⟨k,n,p,s,r,l,v,rfl⟩:=H u d;rfl
 have B:∀(A:bo),(∀u∈A,(nodeCells u).length=5)->(flat A).length=A.length*5:=λA=>by
  induction A with
  | nil=>intro _;rfl
  | cons x A P =>
   intro D;have Q:=D x oe;have E:=P (λu d=>D u (by simp[d]));simp only[flat,qd5,jx,js]at E|-;omega
 refine⟨vs,g,?_,by rw[B vs z,g],λu d=>?_,λi t u C d=>?_⟩
 .cases a with
  | none =>
   have h0:ts.length=0:=by
    rcases Nat.eq_zero_or_pos ts.length with e|e
    .exact e
    .have⟨b,o,E,_⟩:=h.2.1 0 e;cases E
   exact .inl ⟨c,by rw[h0],h0,by rw[jz (g.trans h0)];rfl⟩
  | some I =>
   refine .inr ⟨I,c,rfl,λj u d=>?_⟩;have O:j<(flat vs).length:=(qT.1 d).1;rw[B vs z,g]at O;have m:j / 5<ts.length:=od
   have⟨b,o,e,_,k,n,p,s,r,l,v,G,J,K,L,M,N⟩:=h.2.1 (j / 5) m;have f:=flat_get vs z (j / 5) (j % 5) (V (j / 5)) (y _ m) od;rw[show j / 5*5+j % 5=j from by omega,d,G]at f;simp only[qq]at e;subst e;rw[addr_add];rcases (show j % 5=0\/j % 5=1\/j % 5=2\/j % 5=3\/j % 5=4 by omega)with q|q|q|q|q
   .rw[q]at f;simp[nodeCells,af]at f;rw[f,<-J,show o+j=o+j / 5*5 from by omega]
   .rw[q]at f;simp[nodeCells,af]at f;rw[f,<-K,show o+j=o+j / 5*5+1 from by omega]
   .rw[q]at f;simp[nodeCells,af]at f;rw[f,<-L,show o+j=o+j / 5*5+2 from by omega]
   .rw[q]at f;simp[nodeCells,af]at f;rw[f,<-M,show o+j=o+j / 5*5+3 from by omega]
   .rw[q]at f;simp[nodeCells,af]at f;rw[f,<-N,show o+j=o+j / 5*5+4 from by omega]
 .simp only[flat,qb2]at d;have⟨x,D,d⟩:=d;obtain⟨k,n,p,s,r,l,v,rfl⟩:=H x D;simp[nodeCells,af]at d;rcases d with rfl|rfl|rfl|rfl|rfl<;>rfl
 .have m:i<ts.length:=(qT.1 C).1;rw[y i m]at d;rw[qu m]at C;simp only[qq]at C d;subst C;subst d;exact h.2.2 i m
def XX (W:cg) (l:aE) (e:Ending) (w':cg):Prop:=∃v us,e =.returned v/\IU W w' v l us/\cq W w' none
def Jl{W:cg}{l:aE}{a:bj}{c:Nat}{V:bt}(h:cK (λ_=>True) W l a V)(hn:l.length<=20000000):Calls prog 177 #[.slice a l.length c] W (XX W l):=by
 have⟨m,p,n,s,v,q⟩:=h.Zk c
 cases a with
 | none =>
  have D:l=[]:=by
   cases l with
   | nil=>rfl
   | cons t l=>have⟨b,o,e,_⟩:=h.2.1 0 oe;cases e
  subst D;have B:Hid (XX W [] (.returned (.n0)) W):=⟨_,[],rfl,⟨jd5 _ _ _ _,rfl,λi x u h=>by simp at h⟩,au _ _⟩;clear h n p q s v;go_enter func177,ntmps177;go_wp2;go_ret;exact B.out
 | some E =>
  have d:=Lf.gb (w:=W) (.cells #[] 62);have HB:=jh (xF W (.cells #[] 62));have g:Hid (IU W (W.alloc (.cells #[] 62)) (.o (W.heap.size) 0 0) [] []):=⟨⟨rfl,.inr ⟨W.heap.size,0,#[],rfl,jj _,HB.out,jj _,yv _,rfl,rfl⟩⟩,rfl,λi x u h=>by simp at h⟩;have⟨C,r,k⟩:=JT (n.grow d) d q;clear h n q d;go_enter func177,ntmps177;go_wp2_with (at_builtin;refine ed rfl _ _ 26 rfl W.heap.size 62 underlying26 JD rfl ot _ ([]:bo).length (flat []) rfl g.out.own _ l.length (flat m) rfl s C.out v US (by simp only[qa1];omega) r.out.size ?_;intro z A y d _;have f:=jh (dX r.out g.out.own (jj _) d.1);have j:=jh (g.out.more (v':=z) (w':=A) (us:=l) (ns:=m) (by unfold lh;rw[bV,jx,p];exact y) p k.out);clear y d);go_ret;exact⟨_,_,rfl,by simpa using j.out,f.out⟩
def IU.slice{W w:cg}{v:cm}{ts:aE}{vs:bo}(h:IU W w v ts vs):∃a c,v =.slice a ts.length c:=by
 rcases h.own.2 with⟨rfl,h0⟩|⟨g,b,d,rfl,_⟩
 .exact⟨none,0,by rw[<-h.len,h0]⟩
 .exact⟨_,b,by rw[h.len]⟩
def Dv(k n p:Int)(s:bp)(a:bj)(l c:Nat)(a':bj)(d b:Nat):∀(us:bo),(∀u∈us,(nodeCells u).length=5)->∀i,us[i]?=some (af k n p s a l c)->flat (us.set i (af k n p s a' d b))=(flat us).set (i*5+4) (.slice a' d b)
 | [],_,i,h=>by simp at h
 | x::us,e,0,h=>by simp only[kO,qq]at h;subst h;rfl
 | x::us,e,i+1,h=>by have g:=e x oe;have j:=Dv k n p s a l c a' d b us (λu f=>e u (by simp[f])) i (by simpa using h);rw[xT,show flat (x::us.set i (af k n p s a' d b))=nodeCells x++flat (us.set i (af k n p s a' d b)) from rfl,j,show flat (x::us)=nodeCells x++flat us from rfl,jf1 _ _ od,g,show (i+1)*5+4 - 5=i*5+4 by omega]
def Sv (W:cg) (l:aE) (e:Ending) (w':cg):Prop:=∃a c V,e =.returned (.slice a l.length c)/\l.length<=c/\cK (W.heap.size <= ·) w' l a V/\cq W w' none
structure Wu (W w:cg) (g cap:Nat) (l:aE) (j:Nat) (us:bo):Prop where
 own:lh W.heap.size w (.o g l.length cap) us
 len:us.length=l.length
 done:∀(i:Nat) (x:Tr) (u:cm),l[i]?=some x->us[i]?=some u->i<j->bI (λb=>W.heap.size<=b/\b≠g) w x u
 rest:∀(i:Nat) (x:Tr) (u:cm),l[i]?=some x->us[i]?=some u->j<=i->bI (λ_=>True) W x u
 gr:cq W w none
def Gn{W w:cg}{g cap:Nat}{l:aE}{us:bo}(h:Wu W w g cap l l.length us)(hm:l.length<=maxLen):Sv W l (.returned (.o g l.length cap)) w:=by have m:kQ W.heap.size w (.o g l.length cap) l us:=⟨h.own,h.len,λi x u f n=>(h.done i x u f n (qT.1 f).1).ae λb _ d=>⟨d.1,by simp[Value.ownBlock];exact d.2⟩⟩;have⟨a,c,V,e,j,k⟩:=m.done;exact⟨a,c,V,by rw[e],qP h.own e,⟨hm,j,k⟩,h.gr⟩
def copiedN_any:∀(N:Nat) {W:cg}{l:aE}{a:bj}{c:Nat}{V:bt},sizes l<N->N<=20000000->cK (λ_=>True) W l a V->Calls prog 187 #[.slice a l.length c] W (Sv W l):=λN=>by
 induction N with
 | zero=>intro W l a c V hN;exact absurd hN (Nat.not_lt_zero _)
 | succ N ih =>
  intro W l a c V hN bn h;have bc:l.length<=sizes l:=cB l;have HC:=jh (Jl (c:=c) h od);have ah:Hid (∀{W:cg} {l:aE} {a:bj} {c:Nat} {V:bt},sizes l<N->cK (λ_=>True) W l a V->Calls prog 187 #[.slice a l.length c] W (Sv W l)):=λh1 M=>ih h1 od M;have HN:=jh hN;have bx:(l.length:Int)<=20000000:=od
  have ak:Hid (l.length<=maxLen):=h.1;clear h ih hN bc;go_enter func187,ntmps187;go_wp2_with ((go_at_call 177;(with_reducible refine HC.out.mono ?_);rintro e w1 ⟨v,H,rfl,hK,hg⟩;obtain⟨a2,c2,rfl⟩:=hK.slice;have X:=jh hK;have HG:=jh hg;clear hg hK));have d:=X.out.own;have S:=X.out.len;rcases d.2 with⟨L,h0⟩|⟨g,bk,bm,L,q,hq,hc⟩
  .simp only[ye]at L;obtain⟨rfl,A,rfl⟩:=L;clear A;have m:H=[]:=jz h0;subst m;have bb:l=[]:=jz (by simpa using S.symm);subst bb;clear d S h0;simp only[qa1];refine wp_loop_rounds 1 ?_;rw[rounds_succ];go_wp2;go_ret;exact⟨none,0,λ_=>.i 0,rfl,jj _,cK.nil _ _ _ _,HG⟩
  .simp only[ye]at L;obtain⟨rfl,A,rfl⟩:=L;clear A;have HB:=jh q;have ad:Hid (Wu W w1 g c2 l 0 H):=⟨d,S,λi x u _ _ h=>od,λi x u w m _=>X.lies i x u w m,HG⟩;have HL:=jh S;clear d hq hc q S X;go_loopw [8] (λiv wr=>∃(j:Nat) (H:bo),j<=l.length/\iv =.i j/\Wu W wr g c2 l j H) (λiv _=>l.length - (intOf iv).toNat)
   case atStart=>exact⟨0,H,yv _,rfl,ad⟩
   case round =>
    obtain⟨j,p,hj,rfl,k⟩:=hrel
    by_cases f:j<l.length
    .have D:j<p.length:=by rw[k.len];exact f
     have B:=k.rest j l[j] p[j] (qu f) (qu D) (jj _);have n:=yy f;have F:=qu f;generalize l[j]=x at B n F;have⟨xk,xn,xp,xs,az⟩:=x;have⟨Y,K,Vj,ev,it,C⟩:=B.yX;simp only[Tr.k0,Tr.n0,Tr.p0,Tr.s0,Tr.args0]at ev it C;have E:p[j]?=some (af xk xn xp xs Y az.length K):=by rw[qu D,ev]
     have M:∀u∈p,(nodeCells u).length=5:=λu m=>by
      obtain⟨i,Q,rfl⟩:=qc5 m;have R:i<l.length:=by rw[<-k.len];exact Q
      by_cases aO:i<j
      .have⟨_,_,_,e,_⟩:=(k.done i l[i] p[i] (qu R) (qu Q) aO).yX;rw[e];rfl
      .have⟨_,_,_,e,_⟩:=(k.rest i l[i] p[i] (qu R) (qu Q) od).yX;rw[e];rfl
     have d:lh W.heap.size wr (.o g p.length c2) p:=by rw[k.len];exact k.own
     have bq:g<wr.heap.size:=(qb5 d g rfl).2;have cc:wr.cell? ⟨g,j*5+4,none⟩=some (.slice Y az.length K):=by have:=qd7 d (g:=g) rfl (j*5+4) (.slice Y az.length K) (by rw[flat_get p M j 4 _ E od];rfl);rw[gI,qb1]at this;exact this
     have aq:Hid (sizes az<N):=by have h1:=Ei n;have Z:=HN.out;exact (by simp only[Tr.size]at h1;omega:sizes az<N)
     have I:=jh (ah (c:=K) aq ((C.ae (λ_ _ _=>trivial)).same (sameAll k.gr)));have d1:(j:Int)<(l.length:Int):=od
     have d2:(j:Int)<(H.length:Int):=by rw[HL.out];exact d1
     have⟨HI,J,ar,H2,ax,r⟩:=wg k d E M F it;have aa:Hid (W.heap.size<=g):=HB.out;clear k d E M F it C n B;go_wp2_with ((go_at_call 187;(with_reducible refine I.out.mono ?_);rintro e U ⟨z,G,V3,rfl,P,O,s⟩;have bl:=oG s cc;have fz:=jb7 (qd6 J.out s (.inr Of)) (j*5+4);have an:=jh O;have ab:=jh P;have y:=jh s;clear O s P I));go_roundw
     case rel =>
      have t:cq U (U.setCell ⟨g,j*5+4,none⟩ (.slice z az.length G)) (some g):=aX (au _ _) _ _ _;have T:Same (λb=>b≠g) U (U.setCell ⟨g,j*5+4,none⟩ (.slice z az.length G)):=λb o q f=>ke (t.block b f (by simpa using q));have k:=HI.out;have aC:=aa.out;have bh:=qd6 J y (.inr Of);refine⟨j+1,p.set j (af xk xn xp xs z az.length G),od,by go_num,⟨?_,by simp[k.len],λi x u w m Q=>?_,λi x u w m Q=>?_,aG (Lf.Zt k.gr y) t aC⟩⟩
      .unfold lh;have:=(bh.stored (j*5+4) (.slice z az.length G)).1;rw[je2,Dv xk xn xp xs Y az.length K z az.length G p H2.out j ar.out,<-k.len];exact this
      .by_cases e:i=j
       .subst e;rw[ax.out]at w;simp only[qq]at w;subst w;rw[ja7 D]at m;simp only[qq]at m;subst m;have Z:cK (λb=>W.heap.size<=b/\b≠g) (U.setCell ⟨g,i*5+4,none⟩ (.slice z az.length G)) az z V3:=(an.out.ae (λb _ q=>⟨xo k.gr.size q,od⟩)).same (λb o q f=>T b o q.2 f);exact bI.mk (hk:=ab.out) V3 Z.1 r.2.2.2 r.1 r.2.1 r.2.2.1 Z.2.1 Z.2.2
       .rw[qf5 od]at m;exact ((k.done i x u w m od).same (λb o _ f=>sameAll y b o trivial f)).same (λb o q f=>T b o q.2 f)
      .rw[qf5 od]at m;exact k.rest i x u w m od
     case measure=>simp[intOf];omega
    .have ba:j=l.length:=by omega
     subst ba;have d1:¬(l.length:Int)<(l.length:Int):=od
     have HE:=jh (Gn k ak);clear k;go_wp2;go_ret;have h:=HE.out
     first|exact h|(rw[<-HL.out]at h;exact h)
open Pe
set_option maxHeartbeats 4000000
structure Ac where
 is:Int
 ji:Int
 cnt:Int
 pt:Int
 pa:aw
 st:Int
 sa:aw
 co:aE
 k:Int
 n:Int
 a:Int
 s:bp
 az:ao
 ty:aw
 cd:aE
def R5 (A:Ac):List X:=[.d (.v (.i A.is)),.d (.v (.i A.ji)),.d (.v (.i A.cnt)),.d (.v (.i A.pt)),.d (.s 2 (tysD A.pa)),.d (.v (.i A.st)),.d (.s 2 (tysD A.sa)),.d (.s 5 (ndsD A.co)),
 .d (.v (.i A.k)),.d (.v (.i A.n)),.d (.v (.i A.a)),.d (.v (.string A.s)),.d (.s 7 (vasD A.az)),.d (.s 2 (tysD A.ty)),.d (.s 5 (ndsD A.cd))]
def UI (A:Ac):A1:=.agg (R5 A)
abbrev Lg:=Nat->Ac
def asX (L:Lg):List X:=R5 (L 0)++(R5 (L 1)++(R5 (L 2)++(R5 (L 3)++(R5 (L 4)++(R5 (L 5)++(R5 (L 6)++(R5 (L 7)++(R5 (L 8)++(R5 (L 9)++(R5 (L 10)++R5 (L 11)))))))))))
def Tp (L:Lg) (f:Int):List X:=asX L++[.d (.v (.i f))]
def lC (L:Lg) (f:Int):A1:=.agg (Tp L f)
def ll (n:Int):Bool:=decide (0<=n/\n<=4000000)
def rf (n:Int):Bool:=decide (0<=n/\n<=1152921504606846976)
def ou (L:Lg) (n:Int):Bool:=decide (0<=n/\n<12) && !decide ((L n.toNat).is=0)
def Og(n:Int):Hd ⟨37,[iA n],aQ (ll n)⟩:=by
 by_cases h:0<=n
 .rw[show ll n=decide (n<=4000000) by simp[ll,h]];exact runT func37 [(4,bA true)] [] (al (is_le h) al0)
 .rw[show ll n=false by simp[ll,h]];exact runT func37 [(4,bA false)] [] (al (QA h) al0)
def aa7(n:Int):Hd ⟨39,[iA n],aQ (rf n)⟩:=by
 by_cases h:0<=n
 .rw[show rf n=decide (n<=1152921504606846976) by simp[rf,h]];exact runT func39 [(4,bA true)] [] (al (is_le h) al0)
 .rw[show rf n=false by simp[rf,h]];exact runT func39 [(4,bA false)] [] (al (QA h) al0)
def twelve{n:Int}(a:0<=n)(h:n<12):n=0\/n=1\/n=2\/n=3\/n=4\/n=5\/n=6\/n=7\/n=8\/n=9\/n=10\/n=11:=od
def U8(L:Lg)(f n:Int):Hd ⟨155,[lC L f,iA n],aQ (ou L n)⟩:=by
 by_cases a:0<=n
 .by_cases h:n<12
  .rcases twelve a h with rfl|rfl|rfl|rfl|rfl|rfl|rfl|rfl|rfl|rfl|rfl|rfl<;>exact aF func155 []
  .rw[show ou L n=false by simp[ou,h]];exact runT func155 [(6,bA true),(9,bA false)] [] (al (is_le a) (al (wH h) al0))
 .rw[show ou L n=false by simp[ou,a]];exact runT func155 [(6,bA false)] [] (al (QA a) al0)
set_option maxHeartbeats 40000000
def fQ (L:Lg):Nat->Int
 | 0=>0
 | n+1=>fQ L n+(L n).ji
def qX (L:Lg):Prop:=∀i,i<12->0<=(L i).ji/\(L i).ji<=4000000
def FL{L:Lg}(h:qX L):∀n,n<=12->0<=fQ L n/\fQ L n<=n*4000000
 | 0,_=>by simp[fQ]
 | n+1,c=>by have a:=FL h n od;have b:=h n od;simp only[fQ];omega
def bM{n:Nat}(h:n<12):n=0\/n=1\/n=2\/n=3\/n=4\/n=5\/n=6\/n=7\/n=8\/n=9\/n=10\/n=11:=od
def Uu (L:Lg) (f:Int):Nat->Int
 | 0=>f
 | n+1=>IntKind.i64.wrap (Uu L f n+(L n).ji)
def Q4{L:Lg}{f:Int}(h:qX L)(c:0<=f)(d:f<=4000000):∀n,n<=12->Uu L f n=f+fQ L n
 | 0,_=>by simp[Uu,fQ]
 | n+1,e=>by have a:=FL h n od;have b:=h n od;simp only[Uu,fQ];rw[Q4 h c d n od,zF (b:=f+fQ L n+(L n).ji) rfl od od];omega
abbrev suL (S:St) (ex:Nat) (q:St):Prop:=vO prog f11.ntmps ⟨gF f11,S,ex,q⟩
def suS (L:Lg) (f:Int) (j:Nat):St:=[((0,3),lW (Uu L f j)),((0,9),.of (.agg (asX L))),((0,10),.of (jA j))]
def abN{L:Lg}{f:Int} : ∀(d j:Nat),j+d=12->suL (suS L f j) 2 [((0,3),lW (Uu L f 12))]
 | 0,j,e=>by
  have : j=12:=od
  subst this;exact xQ (e:=1) [] [] al0
 | d+1,j,e=>by
  have a:=abN (L:=L) (f:=f) d (j+1) od;rcases bM (show j<12 by omega)with rfl|rfl|rfl|rfl|rfl|rfl|rfl|rfl|rfl|rfl|rfl|rfl
  all_goals exact LG [] [] a al0
def abb{L:Lg}{f:Int}(h:qX L)(b:0<=f)(c:f<=4000000):Hd ⟨11,[lC L f],.of (iA (f+fQ L 12))⟩:=by rw[<-Q4 h b c 12 (jj _)];have d:=abN (L:=L) (f:=f) 12 0 rfl;have e:=wI (S:=suS L f 0) (q:=gF f11=gF f11) rfl (ps:=[]) al0;exact Ce func11 [] [_] (λx a=>by rw[qv]at a;subst a;exact d) [] e
structure lI where
 kind:Int
 dst:Int
 lG:Int
 arg:Tr
 p:Tr
 s:Tr
 code:Tr
inductive Rq where
 | op (f:Int) (o:lI)
 | told (f:Int) (v:Va)
def Rq.fr:Rq->Int
 | .op f _=>f
 | .told f _=>f
def Rq.dst:Rq->Int
 | .op _ o=>o.dst
 | .told _ v=>v.a
def Rq.lG:Rq->Int
 | .op _ o=>o.lG
 | .told _ v=>v.n
structure Wk where
 L:Lg
 fe:Int
 src:Int
 aC:Int
 done:Int
 paid:Int
 Ze:Int
 made:List Int
def wO (o:lI):bd:=[.v (.i o.kind),.v (.i o.dst),.v (.i o.lG)]++(ndD o.arg++(ndD o.p++(ndD o.s++ndD o.code)))
def nilD:D:=.v (.pointer none)
def rqD:Rq->bd
 | .op f o=>[.v (.i f),.e (wO o),nilD]
 | .told f v=>[.v (.i f),nilD,.e (vaD v)]
def Y1 (r:Rq):A1:=.agg ((rqD r).map .d)
def kH (l:List Rq):List bd:=l.map rqD
def mg(l:List Rq):(kH l).length=l.length:=by simp[kH]
def mkD (l:List Int):List bd:=l.map λn=>[.v (.i n)]
inductive Md where
 | no
 | ls (j:Nat) (es:List (List D))
def mdOf:List Int->Md
 | []=>.no
 | x::l=>.ls (l.length+1) (mkD (x::l))
def mdX (k:Nat):Md->X
 | .no=>.d (.s 0 [])
 | .ls j _=>.g k 1 j
def mdL (k:Nat):Md->List (Nat×AV)
 | .no=>[]
 | .ls _ es=>[(k,.kv 3 1 es)]
def bxX (k:Nat) (L:Lg) (f s g d p m:Int) (md:Md):List X:=Tp L f++[.d (.v (.i s)),.d (.v (.i g)),.d (.v (.i 0)),.d (.v (.i d)),.d (.v (.i p)),.d (.v (.i m)),mdX k md]
def dW (k:Nat) (L:Lg) (f s g d p m:Int) (md:Md):Hp:=⟨[(818800,bxX k L f s g d p m md)],mdL k md⟩
def WE (b k:Nat) (L:Lg) (f s g d p m:Int) (md:Md):St:=oC b 0 (bxX k L f s g d p m md)++(mdL k md).map λe=>((e.1+1,0),e.2)
def wP (o:Nat):A1:=.one (.p 818800 o)
def I4 (k:Nat) (W:Wk):Hp:=dW k W.L W.fe W.src W.aC W.done W.paid W.Ze (mdOf W.made)
def vU (L:Lg) (i:Nat) (A:Ac):Lg:=λj=>if j=i then A else L j
def NY (L:Lg) (i:Nat) (x:Va):Lg:=λj=>if j=i then { L j with k:=x.k,n:=x.n,a:=x.a,s:=x.s,az:=x.args,ty:=x.types,cd:=x.code } else L j
def ib (L:Lg):Nat->Nat->Nat
 | 0,j=>j
 | d+1,j=>if (L j).is=0 then j else ib L d (j+1)
def qO (A:Ac):Ty:=if A.is=1 then .nd 1 []else .nd A.pt A.pa
structure Bt where
 src:Int
 cnt:Int
 eD:Int
 aC:Int
 ops:List lI
structure Rc where
 code:Int
 done:Int
 aC:Int
 Ze:Int
 made:List Int
def p8 (L:Lg) (n:Int):Bool:=decide (0<=n/\n<12)&&decide ((L n.toNat).is=1)
def jo (L:Lg) (b:Bt):Lg:=λj=>if j=b.src.toNat then { L j with ji:=(L j).ji - b.eD,cnt:=b.cnt } else L j
def btA (b:Bt):A1:=.agg [.d (.v (.i b.src)),.d (.v (.i b.cnt)),.d (.v (.i b.eD)),.d (.v (.i b.aC)),.d (.s 23 (b.ops.map wO))]
def Me (r:Rc):List X:=[.d (.v (.i r.code)),.d (.v (.i r.done)),.d (.v (.i r.aC)),.d (.v (.i r.Ze)),.d (.s 1 (mkD r.made))]
def Qt (p:Bool):bd:=[.v (.i (if p then 1 else 0)),.v (.i (if p then 1000000 else 0)),.v (.i 0),.v (.i 0),.s 0 [],.v (.i 0),.s 0 [],.s 0 [],.v (.i 0),.v (.i 0),.v (.i 0),.v (.string ⟨#[]⟩),.s 0 [],.s 0 [],.s 0 []]
def AB (p:Bool):Ac:=⟨if p then 1 else 0,if p then 1000000 else 0,0,0,[],0,[],[],0,0,0,⟨#[]⟩,[],[],[]⟩
def newL:Lg:=λi=>AB (decide (i<4))
def ZQ (j:Nat):bd:=Qt (decide (0<j))++(Qt (decide (1<j))++(Qt (decide (2<j))++(Qt (decide (3<j))++(Qt false++(Qt false++(Qt false++(Qt false++(Qt false++(Qt false++(Qt false++(Qt false++[.v (.i 0)])))))))))))
abbrev nwL (S:St) (ex:Nat) (q:St):Prop:=vO prog f24.ntmps ⟨gF f24,S,ex,q⟩
def nwS (j:Nat):St:=[((0,0),.of (.one (.p 0 0))),((0,1),.of (.one (.p 1 0))),((0,3),.of (jA j))]++oC 0 0 ((ZQ 0).map .d)++oC 1 0 ((ZQ j).map .d)
def nwQ:St:=[((0,0),.of (.one (.p 0 0))),((0,1),.of (.one (.p 1 0)))]++oC 0 0 ((ZQ 0).map .d)++oC 1 0 ((ZQ 4).map .d)
def nw_go:nwL (nwS 0) 2 nwQ:=by have d:nwL (nwS 4) 2 nwQ:=xQ (e:=1) [] [] al0;have c:nwL (nwS 3) 2 nwQ:=LG [] [] d al0;have b:nwL (nwS 2) 2 nwQ:=LG [] [] c al0;have a:nwL (nwS 1) 2 nwQ:=LG [] [] b al0;exact LG [] [] a al0
def lF{α β:Type}{R:α->β->Prop} : ∀{a:List α}{b:List β}{c:List α}{d:List β},L2 R a b->L2 R c d->L2 R (a++c) (b++d)
 | [],[],_,_,_,h=>h
 | _::_,_::_,_,_,⟨x,y⟩,h=>⟨x,lF y h⟩
def QN{β:Nat->Option Nat}{ok:br}{w:cg} : ∀{xs ys:bd}{us:bo},L2 Ja xs ys->dU (jm β ok w) (xs.map .d) us->dU (jm β ok w) (ys.map .d) us
 | [],[],_,_,h=>h
 | _::_,_::_,_::_,⟨a,b⟩,⟨c,d⟩=>⟨Bv a c,QN b d⟩
def aam{β:Nat->Option Nat}{ok:br}{w:cg}{xs ys:bd}{v:cm}(h:L2 Ja xs ys):gm β ok w (.agg (xs.map .d)) v->gm β ok w (.agg (ys.map .d)) v:=λ⟨b,e,a⟩=>⟨b,e,QN h a⟩
def R3 (A:Ac):bd:=[.v (.i A.is),.v (.i A.ji),.v (.i A.cnt),.v (.i A.pt),.s 2 (tysD A.pa),.v (.i A.st),.s 2 (tysD A.sa),.s 5 (ndsD A.co),.v (.i A.k),.v (.i A.n),.v (.i A.a),.v (.string A.s),.s 7 (vasD A.az),.s 2 (tysD A.ty),.s 5 (ndsD A.cd)]
def rX(p:Bool):L2 Ja (Qt p) (R3 (AB p)):=by have z:∀n,n≠0->Ja (.s 0 []) (.s n []):=λn h=>.inr ⟨rfl,n,h,rfl⟩;exact⟨.inl rfl,.inl rfl,.inl rfl,.inl rfl,z 2 ot,.inl rfl,z 2 ot,z 5 ot,.inl rfl,.inl rfl,.inl rfl,.inl rfl,z 7 ot,z 2 ot,z 5 ot,trivial⟩
def lgD (L:Lg) (f:Int):bd:=R3 (L 0)++(R3 (L 1)++(R3 (L 2)++(R3 (L 3)++(R3 (L 4)++(R3 (L 5)++(R3 (L 6)++(R3 (L 7)++(R3 (L 8)++(R3 (L 9)++(R3 (L 10)++(R3 (L 11)++[.v (.i f)])))))))))))
def adQ(L:Lg)(f:Int):lC L f =.agg ((lgD L f).map .d):=rfl
def H_new:Hd ⟨24,[],.of (lC newL 0)⟩:=by
 have b:=nw_go;have e:=wI (S:=nwS 0) (q:=gF f24=gF f24) rfl (ps:=[]) al0;have h:Hd ⟨24,[],.of (.agg ((ZQ 4).map .d))⟩:=Ce func24 [] [_] (λx a=>by rw[qv]at a;subst a;exact b) [] e;refine h.conv (λ_ _ _ h=>h) (λf w v c=>?_)
 rw[adQ];exact aam (lF (rX true) (lF (rX true) (lF (rX true) (lF (rX true) (lF (rX false) (lF (rX false) (lF (rX false) (lF (rX false) (lF (rX false) (lF (rX false) (lF (rX false) (lF (rX false) (show L2 Ja [D.v (.i 0)] [D.v (.i 0)] from ⟨.inl rfl,trivial⟩))))))))))))) c
def ab3(L:Lg)(f n:Int):Hd ⟨53,[lC L f,iA n],aQ (p8 L n)⟩:=by
 by_cases a:0<=n
 .by_cases h:n<12
  .rcases twelve a h with rfl|rfl|rfl|rfl|rfl|rfl|rfl|rfl|rfl|rfl|rfl|rfl<;>exact aF func53 []
  .rw[show p8 L n=false by simp[p8,h]];exact runT func53 [(6,bA true),(9,bA false)] [] (al (is_le a) (al (wH h) al0))
 .rw[show p8 L n=false by simp[p8,a]];exact runT func53 [(6,bA false)] [] (al (QA a) al0)
def Vx(r:Rq):Hd ⟨127,[Y1 r],.rz [iA r.dst,iA r.lG]⟩:=by
 cases r with
 | op f o=>have⟨k,d,a,⟨_,_,_,_,_⟩,⟨_,_,_,_,_⟩,⟨_,_,_,_,_⟩,⟨_,_,_,_,_⟩⟩:=o;exact aF func127 []
 | told f v=>have⟨k,n,a,s,z,t,c⟩:=v;exact aF func127 []
def Ac.par (A:Ac):Ty:=.nd A.pt A.pa
def Ac.oh (A:Ac):Ty:=.nd A.st A.sa
def Ac.val (A:Ac):Va:=.mk A.k A.n A.a A.s A.az A.ty A.cd
def CJ (A:Ac):Bool:=decide (A.co.length=0)&&sameT A.par (.nd 0 [])&&sameT A.oh (.nd 0 [])&&decide (qg uL A.val zeroVa=0)
def zT0:A1:=.agg [.d (.v (.i 0)),.d (.s 0 [])]
def zV0:A1:=.agg [.d (.v (.i 0)),.d (.v (.i 0)),.d (.v (.i 0)),.d (.v (.string ⟨#[]⟩)),.d (.s 0 []),.d (.s 0 []),.d (.s 0 [])]
def Jw{T:Ty}(f:T.size<=50000000):Hd ⟨28,[tyA T,zT0],aQ (sameT T (.nd 0 []))⟩ :=
 (BR (U:=.nd 0 []) f).conv (λok w k h=>by
  match k,h with
  | [a,b],⟨c,⟨j,e,d⟩,_⟩ =>
   match j,d with
   | [x,y],⟨g,i,_⟩=>exact⟨c,⟨_,e,g,gG i,trivial⟩,trivial⟩) (λ_ _ _ h=>h)
def Vu{x:Va}(f:okV x)(g:x.size<=20000000):Hd ⟨52,[pF x,zV0],aQ (decide (qg uL x zeroVa=0))⟩ :=
 (Te (y:=zeroVa) f (by simp[zeroVa,okV,okVs,okTs,okNs,bD,maxLen,ByteArray.size]) g).conv (λok w q h=>by
  match q,h with
  | [a,b],⟨c,⟨p,e,d⟩,_⟩ =>
   match p,d with
   | [r,s,t,u,v,z,A],⟨i,j,k,l,m,n,o,_⟩=>exact⟨c,⟨_,e,i,j,k,l,gG m,gG n,gG o,trivial⟩,trivial⟩) (λ_ _ _ h=>h)
def abV{A:Ac}(h:A.par.size<=50000000)(i:A.oh.size<=50000000)(j:okV A.val)(k:A.val.size<=20000000):Hd ⟨38,[UI A],aQ (CJ A)⟩:=by
 have b:=Jw h;have f:=Jw i;have g:=Vu j k;unfold CJ;have a:jJ (decide (((ndsD A.co).length:Int)=0)) (decide (A.co.length=0)):=eT (by rw[Hf,qg7];omega)
 cases c:decide (A.co.length=0)with
 | false=>rw[c]at a;exact runT func38 [(6,bA false)] [] (al a al0)
 | true =>
  rw[c]at a
  cases d:sameT A.par (.nd 0 [])with
  | false=>rw[d]at b;exact runT func38 [(6,bA true)] [⟨_,b⟩] (al a al0)
  | true =>
   rw[d]at b
   cases e:sameT A.oh (.nd 0 [])with
   | false=>rw[e]at f;exact runT func38 [(6,bA true)] [⟨_,b⟩,⟨_,f⟩] (al a al0)
   | true=>rw[e]at f;exact runT func38 [(6,bA true)] [⟨_,b⟩,⟨_,f⟩,⟨_,g⟩] (al a al0)
def UN (L:Lg):Nat->Nat->Bool
 | 0,_=>true
 | d+1,j=>ll (L j).ji&&UN L d (j+1)
def QX{L:Lg} : ∀d j,UN L d j->∀i,j<=i->i<j+d->ll (L i).ji
 | 0,j,_,i,a,b=>od
 | d+1,j,h,i,a,b=>by
  simp only[UN,qt]at h
  by_cases e:i=j
  .rw[e];exact h.1
  .exact QX d (j+1) h.2 i od od
def zo (L:Lg) (f:Int):Bool:=ll f&&UN L 12 0&&decide (f+fQ L 12=4000000)
abbrev cvL (S:St) (ex:Nat) (q:St):Prop:=vO prog f26.ntmps ⟨gF f26,S,ex,q⟩
def cvX (L:Lg) (f:Int):St:=((0,1),.of (.one (.p 1 0)))::oC 1 0 (Tp L f)
def cvS (L:Lg) (f:Int) (j:Nat):St:=[((0,10),.of (.agg (asX L))),((0,11),.of (jA j))]++cvX L f
def abp{L:Lg}{f:Int} : ∀(d j:Nat),j+d=12->(UN L d j->cvL (cvS L f j) 2 (cvX L f))/\(UN L d j=false->cvL (cvS L f j) 1 [((0,2),aQ false)])
 | 0,j,e=>by
  have : j=12:=od
  subst this;exact⟨λ_=>xQ (e:=1) [] [] al0,λh=>by simp[UN]at h⟩
 | d+1,j,e=>by
  have b:=abp (L:=L) (f:=f) d (j+1) od;have a:=Og (L j).ji;simp only[UN]
  cases c:ll (L j).ji with
  | false =>
   rw[c]at a;refine⟨λh=>by simp at h,λ_=>?_⟩;rcases bM (show j<12 by omega)with rfl|rfl|rfl|rfl|rfl|rfl|rfl|rfl|rfl|rfl|rfl|rfl
   all_goals exact xQ (e:=0) [] [⟨_,a⟩] al0
  | true =>
   rw[c]at a;rw[qa7];have F:∀{ex:Nat} {q:St},cvL (cvS L f (j+1)) ex q->cvL (cvS L f j) ex q:=λh=>by
    clear b;rcases bM (show j<12 by omega)with rfl|rfl|rfl|rfl|rfl|rfl|rfl|rfl|rfl|rfl|rfl|rfl
    all_goals exact LG [] [⟨_,a⟩] h al0
   exact⟨λh=>F (b.1 h),λh=>F (b.2 h)⟩
def Ea{n:Int}(h:ll n):0<=n/\n<=4000000:=by simpa[ll]using h
def GU{L:Lg}(h:UN L 12 0):qX L:=λi a=>Ea (QX 12 0 h i od od)
def Rx(L:Lg)(f:Int):Hd ⟨26,[lC L f],aQ (zo L f)⟩:=by
 have a:=Og f;unfold zo
 cases c:ll f with
 | false=>rw[c]at a;exact aF func26 [⟨_,a⟩]
 | true =>
  rw[c]at a;have⟨i,j⟩:=abp (L:=L) (f:=f) 12 0 rfl;have e:=wI (S:=cvS L f 0) (q:=gF f26=gF f26) rfl (ps:=[]) al0
  cases d:UN L 12 0 with
  | false=>exact Ce func26 [] [_] (λx b=>by rw[qv]at b;subst b;exact j d) [⟨_,a⟩] e
  | true =>
   have⟨g,h⟩:=Ea c;have k:=abb (GU d) g h;exact Ce func26 [] [_] (λx b=>by rw[qv]at b;subst b;exact i d) [⟨_,a⟩,⟨_,k⟩] e
def KJ (t:Tr) (c:Int):Bool:=primB t&&decide (c+t.size<=300)
def AR (l:aE) (c:Int):Bool:=primBs l&&decide (c+sizes l<=300)
abbrev cH (c:Int):Hp:=⟨[(800100,[.d (.v (.i c))])],[]⟩
def RkH (t:Tr):Prop:=∀c:Int,0<=c->c<=300->∃c':Int,(KJ t c->c'=c+t.size)/\HX 176 [ndA t,.one (.p 800100 0)] (.rz [if KJ t c then tyA (kreadT t)else .agg [.d (.v (.i 0)),.d (.s 0 [])],bA (KJ t c)]) (cH c) (cH c')
def rkX (xs:aw) (j:Nat):St:=match xs with
 | []=>[((7,1),.of nilA)]
 | _::_=>[((7,1),.of (.one (.g 3000058 2 j))),((3000059,0),.kv 25 2 (tysD xs))]
def rkS (p:Int) (l:aE) (xs:aw) (j:Nat) (c:Int):St:=[((0,1),.of (.one (.p 800100 0))),((0,4),.of (.one (.p 4 0))),((0,6),.of (.one (.p 6 0))),((0,39),.of (CW l)),((0,40),lW (ndsD l).length),((0,41),.of (jA j)),((5,0),.of (iA 0)),((5,1),.of nilA),((7,0),.of (iA p)),((800101,0),.of (iA c))]++rkX xs j
def rkQ (p:Int) (xs:aw) (j:Nat) (c:Int):St:=[((0,4),.of (.one (.p 4 0))),((0,6),.of (.one (.p 6 0))),((5,0),.of (iA 0)),((5,1),.of nilA),((7,0),.of (iA p)),((800101,0),.of (iA c))]++rkX xs j
abbrev rkL (β:Nat->Option Nat) (S:St) (ex:Nat) (q:St):Prop:=@vO (qh β) prog f176.ntmps ⟨gF f176,S,ex,q⟩
def rkN (c:Int):St:=[((0,4),.of (.one (.p 4 0))),((5,0),.of (iA 0)),((5,1),.of nilA),((0,5),aQ false),((800101,0),.of (iA c))]
def QH{p:Int}{az:aE}(H:∀t∈az,RkH t):∀(l:aE) (j:Nat),j<=az.length->az.drop j=l->∀c:Int,(j:Int)<=c->c<=300->∃n:Int,(AR l c->n=c+sizes l) /\
 (AR l c->∀β,rkL β (rkS p az (kreadTs (az.take j)) j c) 2 (rkQ p (kreadTs az) az.length n))/\(AR l c=false->∀β,rkL β (rkS p az (kreadTs (az.take j)) j c) 1 (rkN n))
 | [],j,r,i,c,h0,v=>by
  have m:az.length<=j:=by have:=congrArg List.length i;simp at this;omega
  have s:mD (aQ (decide (Int.ofNat j<((ndsD az).length:Int)))) (bA false):=wH (by simp[Hf];omega);refine⟨c,λ_=>by simp[sizes],λ_ β=>?_,λh=>by simp[AR,primBs,sizes,v]at h⟩;obtain rfl:j=az.length:=jh7 r m;rw[ux m];cases kreadTs az<;>exact fF (e:=1) [(42,bA false)] [] (al s al0)
 | .nd tk b d f a::l,j,r,i,c,h0,v=>by
  have m:j<az.length:=qb4 λh=>by rw[qb6 od]at i;cases i
  have x:az[j]?=some (.nd tk b d f a):=by rw[km m]at i;rw[qu m];exact congrArg some (qe3 i).1
  have K:az.drop (j+1)=l:=by rw[km m]at i;exact (qe3 i).2
  have⟨I,o,hF⟩:=H _ (ka x) c od v;have s:mD (aQ (decide (Int.ofNat j<((ndsD az).length:Int)))) (bA true):=is_lt (by simp[Hf];omega);have B:=WV x;have D:mD (lW (IntKind.i64.wrap (Int.ofNat j+1))) (jA (j+1)):=yY (zF oe ov ov);have N:=size_pos (.nd tk b d f a)
  cases g:KJ (.nd tk b d f a) c with
  | false =>
   rw[g]at hF;have C:¬AR (.nd tk b d f a::l) c:=λh=>by
    simp only[AR,KJ,primBs,sizes,jd0,qt,ka3]at h g;have M:=qf7 h.2;rcases g with g|g
    .rw[h.1.1]at g;cases g
    .have:=of_decide_eq_false g;omega
   refine⟨I,λh=>absurd h C,λh=>absurd h C,λ_ β=>?_⟩;cases kreadTs (az.take j)<;>exact fF (e:=0) [(42,bA true),(43,.one (.e (ndD (.nd tk b d f a)) 0))] [⟨_,hF⟩] (al s (al B al0))
  | true =>
   rw[g]at hF o;obtain rfl:=o rfl;simp only[KJ,qt]at g;have z:=qf7 g.2;have⟨n,A,w⟩:=QH (p:=p) H l (j+1) m K (c+((Tr.nd tk b d f a).size:Int)) od z;have e:AR (.nd tk b d f a::l) c=AR l (c+((Tr.nd tk b d f a).size:Int)):=by
    simp only[AR,primBs,g.1,qa7,sizes]
    congr 2
    simp only[jd0,eq_iff_iff];omega
   rw[e];have J:kreadTs (az.take (j+1))=kreadTs (az.take j)++[kreadT (.nd tk b d f a)]:=by rw[Kg,Kg,jc1,x];simp
   have k:(kreadTs (az.take j)).length=j:=by rw[Kg,qc3,qc1];omega
   rw[J]at w;have F:=λ(β:Nat->Option Nat) {ex:Nat} {q:St} (h:rkL β (rkS p az (kreadTs (az.take j)++[kreadT (.nd tk b d f a)]) (j+1) (c+((Tr.nd tk b d f a).size:Int))) ex q)=>(by
    generalize kreadTs (az.take j)=u at h k|-;have E:rowsLe ((tysD u).take j++tysD [kreadT (.nd tk b d f a)]) (tysD (u++[kreadT (.nd tk b d f a)])):=by rw[ux (by rw[eY];omega),tysD_map,tysD_map,tysD_map,qa0];exact rows_refl _
    have G:zV 32 j (tysD u) (tysD [kreadT (.nd tk b d f a)]):=iL (by rw[eY];omega) (by simp[tysD]) rfl (by simp[tysD];omega) ot
    cases u with
    | nil =>
     obtain rfl:j=0:=k.symm;exact jC [(42,bA true),(43,.one (.e (ndD (.nd tk b d f a)) 0)),(60,jA (0+1)),(2000058,dZ [kreadT (.nd tk b d f a)])] [⟨_,hF⟩] h (al s (al B (al E (al G (al D al0)))))
    | cons y L=>exact jC [(42,bA true),(43,.one (.e (ndD (.nd tk b d f a)) 0)),(60,jA (j+1)),(2000058,dZ ((y::L)++[kreadT (.nd tk b d f a)]))] [⟨_,hF⟩] h (al s (al B (al E (al G (al D al0))))):rkL β (rkS p az (kreadTs (az.take j)) j c) ex q)
   exact⟨n,λh=>by rw[A h];simp only[sizes];omega,λh β=>F β (w.1 h β),λh β=>F β (w.2 h β)⟩
def adB{z:bp}(h:z.size=0):jJ (!(z.toList==ByteArray.toList ⟨#[]⟩)) false:=eT (by have⟨d⟩:=z;obtain rfl:d=#[]:=jb0 h;rw[Bool.not_eq_false',jg3])
def acK{z:bp}(h:z.size≠0):jJ (!(z.toList==ByteArray.toList ⟨#[]⟩)) true:=eT (by
 rw[qg1,qh7];intro e;rw[jc5,jc5]at e;have⟨d⟩:=z;have e:d=#[]:=by simpa using e
 exact h (by rw[e];rfl))
def aaW{β:Nat->Option Nat}{ok:br}{w:cg}{p:Int}{v:cm}(h:iZ β ok w (.rz [.agg [.d (.v (.i p)),.d (.s 0 [])],bA true]) v):iZ β ok w (.rz [.agg [.d (.v (.i p)),.d (.s 2 [])],bA true]) v:=by
 obtain⟨k,rfl,h⟩:=h
 match k,h with
 | [x,y],⟨h0,e,_⟩ =>
  obtain⟨j,rfl,c⟩:=h0
  match j,c with
  | [a,b],⟨f,g,_⟩=>exact⟨_,rfl,⟨_,rfl,f,gG g,trivial⟩,e,trivial⟩
mutual
def E_kread:∀t:Tr,RkH t
 | .nd k n p s a=>λc D E=>by
  have f:mD (lW (IntKind.i64.wrap (c+1))) (iA (c+1)):=yY (zF rfl od od);have B:(Tr.nd k n p s a).size=1+sizes a:=by simp only[Tr.size];omega
  by_cases o:300<c+1
  .refine⟨c+1,λh=>?_,?_⟩
   .simp only[KJ,qt]at h;have:=qf7 h.2;omega
   .rw[show KJ (.nd k n p s a) c=false by simp only[KJ,ka3];right;rw[qe1];omega];exact bH func176 [(14,iA (c+1)),(19,bA true)] [] [] oe (al f (al (is_lt o) al0))
  have g:mD (aQ (decide ((300:Int)<c+1))) (bA false):=wH o
  by_cases d:lS k n s
  .simp only[lS,jt]at d;obtain⟨rfl,rfl,e⟩:=d;have C:=adB e;have m:KJ (.nd 2 0 p s a) c=AR a (c+1):=by
    simp only[KJ,AR,primB,B,lS,e,and_self,decide_true,qa7]
    congr 2;simp only[jd0,eq_iff_iff];omega
   have⟨w,z,i⟩:=QH (p:=p) (λt A=>E_kreads a t A) a 0 (yv _) rfl (c+1) od od;have l:=wI (S:=rkS p a [] 0 (c+1)) (q:=gF f176=gF f176) rfl (ps:=[mD (lW (IntKind.i64.wrap (c+1))) (iA (c+1)),mD (aQ (decide ((300:Int)<c+1))) (bA false),jJ (!(s.toList==ByteArray.toList ⟨#[]⟩)) false]) (al f (al g (al C al0)));refine⟨w,λh=>by rw[m]at h;rw[z h];omega,?_⟩;rw[m]
   cases j:AR a (c+1)with
   | false=>exact bH func176 [(14,iA (c+1)),(19,bA false),(32,bA false)] [_] [] (λβ x b=>by rw[qv]at b;subst b;exact i.2 j β) l
   | true =>
    cases a with
    | nil=>exact HX.conv (bH func176 [(14,iA (c+1)),(19,bA false),(32,bA false)] [_] [] (λβ x b=>by rw[qv]at b;subst b;exact i.1 j β) l) (λ_ _ _ _ h=>aaW h)
    | cons y v=>exact bH func176 [(14,iA (c+1)),(19,bA false),(32,bA false)] [_] [] (λβ x b=>by rw[qv]at b;subst b;exact i.1 j β) (jX l (al (show (y::v).length=(tysD (kreadTs (y::v))).length by rw[eY,Kg,qc3]) al0))
  .refine⟨c+1,λh=>?_,?_⟩
   .simp only[KJ,primB,qt]at h;exact absurd h.1.1 d
   .rw[show KJ (.nd k n p s a) c=false by simp[KJ,primB,d]];simp only[lS,jt]at d
    by_cases r:k=2
    .subst r
     by_cases u:n=0
     .subst u;exact bH func176 [(14,iA (c+1)),(19,bA false),(32,bA true)] [] [] oe (al f (al g (al (acK (λh=>d ⟨rfl,rfl,h⟩)) al0)))
     .exact bH func176 [(14,iA (c+1)),(19,bA false),(27,bA true)] [] [] oe (al f (al g (al (oZ (xb u)) al0)))
    .exact bH func176 [(14,iA (c+1)),(19,bA false),(23,bA true)] [] [] oe (al f (al g (al (oZ (xb r)) al0)))
def E_kreads:∀l:aE,∀t∈l,RkH t
 | [],_,h=>by cases h
 | t::l,a,h=>by
  by_cases e:a=t
  .rw[e];exact E_kread t
  .exact E_kreads l a (by rcases kl.1 h with h|h;exact absurd h e;exact h)
end
mutual
def okT_read:∀t:Tr,okN t->okT (kreadT t)
 | .nd _ _ _ _ a,h=>⟨h.1.2.2.1,okTs_read a h.2⟩
def okTs_read:∀l:aE,okNs l->okTs (kreadTs l)
 | [],_=>trivial
 | t::l,h=>⟨okT_read t h.1,okTs_read l h.2⟩
end
def Vi{t:Tr}(l:okN t):Hd ⟨159,[ndA t],.rz [if fu t then tyA (kreadT t)else .agg [.d (.v (.i 0)),.d (.s 0 [])],iA (if fu t then 0 else 1)]⟩:=by
 have⟨m,_,hF⟩:=E_kread t 0 od od;have e:fu t=(KJ t 0&&ai (kreadT t)):=by
  have h:decide (0+t.size<=300)=decide ((0:Int)+(t.size:Int)<=300):=by rw[qg7];omega
  simp only[fu,oW,KJ,h]
 have a:=Cb (okT_read t l);rw[e];replace hF:=hF.to 800100 4;have⟨tk,f,g,j,c⟩:=t
 cases b:KJ (.nd tk f g j c) 0 with
 | false =>
  rw[b]at hF;exact aF func159 [⟨_,hF⟩]
 | true =>
  rw[b]at hF;rw[qa7];cases k:ai (kreadT (.nd tk f g j c))<;>rw[k]at a
  .exact aF func159 [⟨_,hF⟩,⟨_,a⟩]
  .exact aF func159 [⟨_,hF⟩,⟨_,a⟩]
def U2{t:Tr}(b:okN t)(a:fu t):Hd ⟨159,[ndA t],.rz [tyA (kreadT t),iA 0]⟩:=by have:=Vi b;rw[a]at this;exact this
