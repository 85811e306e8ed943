import Derived.Test.YtgfdimkbfnpepaaGreatKtZak
namespace Go.Proofs.YtgfdimkbfnpepaaGreat
set_option linter.all false
open Go.Proofs.Tryz
set_option maxRecDepth 100000
set_option maxHeartbeats 4000000
mutual
def tkV:Va->Nat
 | .mk k n a s args types code=>(if k=15 then n.toNat else 0)+tkVs args
def tkVs:an->Nat
 | []=>0
 | x::xs=>tkV x+tkVs xs
end
def DF(v:Va):tkV v=(if v.k=15 then v.n.toNat else 0)+tkVs v.args:=by cases v;rw[tkV];rfl
def tkVs_app:∀a b:an,tkVs (a++b)=tkVs a+tkVs b
 | [],b=>by simp[tkVs]
 | x::a,b=>by rw[qd0,tkVs,tkVs,tkVs_app a b];omega
def DC(v:Va):tkVs v.args<=tkV v:=by rw[DF];omega
def tkVs_rev:∀l:an,tkVs l.reverse=tkVs l
 | []=>rfl
 | x::l=>by rw[qb6,tkVs_app,tkVs_rev l];simp only[tkVs];omega
def UQ{a x:Va}{l:an}(e:a.args=x::l):tkV x+tkVs l<=tkV a:=by have:=DC a;rw[e,tkVs]at this;exact this
def tk_mem:∀{l:an}{x:Va},x∈l->tkV x<=tkVs l
 | y::l,x,h=>by
  rw[tkVs];rcases zr.1 h with rfl|h
  .omega
  .have:=tk_mem h;omega
def abp{l:an}{i:Nat}{v:Va}(h:l[i]?=some v):tkVs (l.eraseIdx i)+tkV v=tkVs l:=by obtain⟨a,rfl⟩:=qv.1 h;have e:=congrArg tkVs (qc4 i l);rw[jg2,tkVs_app];rw[tkVs_app,yW a,tkVs]at e;omega
def Xx(l:an)(i:Nat):tkVs (l.take i)+tkVs (l.drop i)=tkVs l:=by rw[<-tkVs_app,qc4]
def aaH(l:an)(i:Nat):tkVs (l.drop i)<=tkVs l:=by have:=Xx l i;omega
def abd{l:an}{key:Va}{a:an}(h:a.length<=1):tkVs (uO l key a)<=tkVs l+tkV key+tkVs a:=by
 unfold uO;rw[tkVs_app,tkVs_app];have b:=Xx l (kz l key);have c:tkVs (l.drop (if fJ l key then kz l key+1 else kz l key))<=tkVs (l.drop (kz l key)):=by
  split
  .rw[<-List.drop_drop];exact aaH _ _
  .exact qS _
 have d:tkVs (a.map (aY key))<=tkV key+tkVs a:=by
  match a,h with
  | [],_=>simp[tkVs]
  | [v],_=>simp[aY,mkV,tkVs,tkV]
  | _::_::_,h=>simp at h
 omega
def abe(p:Int)(v:Va):tkVs (ru p v).2<=tkV v:=by
 have:=DC v;unfold ru
 repeat' split
 all_goals first
  | exact this
  | (simp[tkVs];done)
  | (rename_i e;rw[e,tkVs]at this;rw[tkVs,tkVs,tkVs,mkV,tkV,if_neg ov];omega)
section
variable {f g:Int->Bool}
mutual
def Ri(h:∀t,f t->g t):∀T:Ty,sW Bq f T->sW Ap g T
 | .nd t a,e=>by
  rw[sW,qu]at e|-;have b:ow Bq f a:=by simpa[Bq]using e.2
  exact⟨h t e.1,by rw[Nq h a b];simp⟩
def Nq(h:∀t,f t->g t):∀l:ao,ow Bq f l->ow Ap g l
 | [],_=>rfl
 | T::l,e=>by rw[ow,qu]at e|-;exact⟨Ri h T e.1,Nq h l e.2⟩
end
end
def Nv{T:Ty}(h:oF T):A7 T:=Ri (λt a=>by simp only[Qd,Qe,kj]at a|-;omega) T h
def Nw{l:ao}(h:ow Ap Qe l)(i:Nat):A7 (bB l i):=by
 unfold bB;rw[yL,kB]at h
 cases e:l[i]? with
 | none=>rfl
 | some U=>exact h U (zj e)
def ZR{T:Ty}{v:Va}{ts:ao}(hc:A7 T)(h:bS T v=some ts):∀U∈ts,A7 U:=by
 have⟨t,d⟩:=T;unfold A7 at hc;rw[sW,qu]at hc;have⟨e,f⟩:=hc;simp only[Qe,kj]at e;unfold bS at h;simp only at h;rw[if_neg (show ¬(Ty.nd t d).t=8 from e.2)]at h;have b:t≠14->ow Ap Qe d:=λc=>by simpa[Ap,c]using f
 intro U a
 repeat' split at h
 all_goals first
  | (cases h;done)
  | (simp only[qk]at h;subst h)
 all_goals simp only[Ty.t,Ty.args]at *
 all_goals first
  | (simp at a;done)
  | (rw[List.mem_replicate]at a;rw[a.2];exact Nw (b od) 0)
  | (rw[List.mem_replicate]at a;rw[a.2];unfold A7;rw[sW,b od];rfl)
  | (rw[js]at a;subst a;exact Nw (b od) _)
  | (have:=b od;rw[yL,kB]at this;exact this U a)
mutual
def tk_zero:∀(v:Va) (T:Ty),hasV v T->A7 T->tkV v=0
 | .mk k n a s b c d,T,h,e=>by
  rw[hasV]at h;simp only[qu]at h
  cases g:bS T (.mk k n a s b c d)with
  | none=>rw[g]at h;simp at h
  | some j =>
   rw[g]at h;have i:k=T.t:=by have:=h.1.1;simp only[eX,qu,kj]at this;exact this.1.1.1.1.1
   have f:k≠15:=by have⟨t,l⟩:=T;unfold A7 at e;rw[sW,qu]at e;have:=e.1;simp only[Qe,kj]at this;simp only[Ty.t]at i;omega
   rw[tkV,if_neg f,tks_zero b j h.1.2 (ZR e g)]
def tks_zero:∀(l:an) (ts:ao),hasVs l ts->(∀U∈ts,A7 U)->tkVs l=0
 | [],_,_,_=>rfl
 | v::l,[],h,_=>by simp[hasVs]at h
 | v::l,T::ts,h,a=>by simp only[hasVs,qu]at h;rw[tkVs,tk_zero v T h.1 (a T ot),tks_zero l ts h.2 λU b=>a U (by simp[b])]
end
def Jo{T:Ty}{v:Va}(h:pY T v)(hc:A7 T):tkV v=0:=by unfold pY at h;rw[qu]at h;exact tk_zero v T h.2 hc
def Jg{T:Ty}{v:Va}(h:Fit T v)(hc:A7 T):tkV v=0:=by unfold Fit qC at h;rw[qu]at h;exact Jo h.1 hc
def Ey{T:Ty}{v:Va}(h:Fit T v)(a:T.t=15):tkVs v.args=0:=by have⟨A,x,b,d,e,_⟩:=xH h a;have c:=(dE (je h)).2.2;have⟨t,args⟩:=T;simp only[Ty.t,Ty.args]at a b;subst a;subst b;simp only[keyedF,uZ,headComp,qu]at c;rw[d,tkVs,Jg e (Nv (by simpa using c.1))];rfl
structure TC (n:Tr) (st:an):Prop where
 dup:n.p0=41->∀v,st[(dK n 0).n0.toNat - 1]?=some v->tkV v=0
 push:n.p0=45->∀v,jf (kreadT (dK n 0)) (dK n 1)=some v->tkV v=0
 unp:n.p0=82->∀l v,jw (kreadT (dK n 0)) l=some v->tkV v=0
 upd:n.p0=63->∀a b s,st=a::b::s->b.args.length<=1
 Ze:n.p0=84->∀a b s,st=a::b::s->0<=b.n
 rd:n.p0=85\/n.p0=86->∀a s,st=a::s->a.k=15/\tkVs a.args=0
 jn:n.p0=87->∀a s,st=a::s->∀y z r,a.args=y::z::r->y.k=15/\z.k=15
 spl:n.p0=86->∀a b s,st=a::b::s->∀y z r,b.args=y::z::r->(0<=y.n/\y.n<=1152921504606846976)/\0<=z.n/\z.n<=1152921504606846976
def abo{N:Nat}{n:Tr}{s x:ao}{f:Bool}{st:an}(h:keptF (stepF N n s) =.ok f x)(W:n.k0≠3)(k:FitS s st):TC n st:=by
 have⟨h,_,_⟩:=nP h
 cases N with
 | zero=>simp[stepF]at h
 | succ N =>
  rw[stepF,if_neg W]at h;split at h
  .cases h
  .rename_i i M;have hp:=ng M;constructor
   .intro d v m;have⟨S,Z⟩:=UW M od;have d:i.p=41:=by omega
    simp only[vP,dG,d,Int.reduceEq,false_or,or_true,or_false,if_true,je2,if_false,true_and]at h;split at h
    .rename_i c;have⟨w,X,hF⟩:=fitS_get k (i.n.toNat - 1) od;rw[<-S,X]at m;cases m;refine Jg hF ?_;have:=c.2.2;rwa [Ep od]at this
    .cases h
   .intro d v m;have d:i.p=45:=by omega
    simp only[vP,cZ,d,Int.reduceEq,false_or,or_true,or_false,if_true,je2,if_false,true_and]at h;split at h
    .rename_i c;rw[(LW M d).1]at c;exact Jo (vC m).1 (NL _ c.1)
    .cases h
   .intro d l v m;exact Jo (wQ m).1 (NL _ (wQ m).2.1)
   .intro d a b r e;have d:i.p=63:=by omega
    simp only[vP,aP,d,Int.reduceEq,false_or,or_true,or_false,if_true,je2,if_false,true_and]at h;split at h
    .rename_i c;obtain⟨T,U,V,r,rfl,_,o,hV⟩:=Kt c.1;subst e;have⟨C,_,G⟩:=EW k.2.1 (o ov);rcases G with G|⟨q,G,_⟩<;>rw[G]<;>simp
    .cases h
   .intro d a b r e;have d:i.p=84:=by omega
    simp only[vP,bF,d,Int.reduceEq,false_or,or_true,or_false,if_true,je2,if_false,true_and]at h;split at h
    .rename_i c;obtain⟨T,U,r,rfl,_,o⟩:=lT c.1;subst e;exact (qd k.2.1 (.inr (.inl (o ov)))).2.2 (by have:=o ov;omega)
    .cases h
   .intro d a r e;have D:sFq s [15]\/sFq s [15,11]:=by
     rcases d with d|d
     .have d:i.p=85:=by omega
      simp only[vP,bF,d,Int.reduceEq,false_or,or_true,or_false,if_true,je2,if_false,true_and]at h;split at h
      .rename_i c;exact .inl c
      .cases h
     .have d:i.p=86:=by omega
      simp only[vP,bF,d,Int.reduceEq,false_or,or_true,or_false,if_true,je2,if_false,true_and]at h;split at h
      .rename_i c;exact .inr c.1
      .cases h
    have : ∃T H,s=T::H/\T.t=15:=by
     rcases D with D|D
     .have⟨T,r,e,g⟩:=fZ D;exact⟨T,r,e,g ov⟩
     .have⟨T,U,r,e,g,_⟩:=lT D;exact⟨T,_,e,g ov⟩
    obtain⟨T,H,rfl,g⟩:=this;subst e;exact⟨(Gw k.1).trans g,Ey k.1 g⟩
   .intro d a r e y z Y j;have d:i.p=87:=by omega
    simp only[vP,bF,d,Int.reduceEq,false_or,or_true,or_false,if_true,je2,if_false,true_and]at h;split at h
    .rename_i c;obtain⟨T,r,rfl,g⟩:=fZ c.1;subst e;have⟨B,C,p,q,I,J,K,L⟩:=uX k.1 (g ov);have u:sFq T.args [15,15]:=c.2.1;rw[I]at u;have⟨Q,R,H,A,E,F⟩:=lT u;simp only[xo]at A;obtain⟨rfl,rfl,rfl⟩:=A;rw[J]at j;simp only[xo]at j;obtain⟨rfl,rfl,_⟩:=j;exact⟨(Gw K).trans (E ov),(Gw L).trans (F ov)⟩
    .cases h
   .intro d a b r e y z Y j;have d:i.p=86:=by omega
    simp only[vP,bF,d,Int.reduceEq,false_or,or_true,or_false,if_true,je2,if_false,true_and]at h;split at h
    .rename_i c;obtain⟨T,U,r,rfl,g,o⟩:=lT c.1;subst e;have⟨B,C,p,q,I,J,K,L⟩:=uX k.2.1 (o ov);have u:sFq U.args [4,4]:=c.2;rw[I]at u;have⟨Q,R,H,A,E,F⟩:=lT u;simp only[xo]at A;obtain⟨rfl,rfl,rfl⟩:=A;have⟨_,p2,O⟩:=qd K (.inr (.inl (E ov)));have⟨_,q2,P⟩:=qd L (.inr (.inl (F ov)));have O:=O (by have:=E ov;omega);have P:=P (by have:=F ov;omega);rw[J]at j;simp only[xo]at j;obtain⟨rfl,rfl,_⟩:=j;omega
    .cases h
def tkF:List Fr->Nat
 | []=>0
 | f::l=>tkVs f.aside+tkF l
def Xw (m:Ma):Int:=(tkVs m.st+tkF m.fr:Nat) - m.aO
def TK (c:Int):Out->Prop
 | .stuck=>True
 | .no _ _=>True
 | .go m=>Xw m<=c
section
variable {p mi:Int}{sd:Va}{st:an}{F:List Fr}{c:Int}
def ou(l:an)(h:((tkVs l+tkVs st+tkF F:Nat):Int) - mi<=c):TK c (bz ⟨p,mi,sd,st,F⟩ l):=by
 unfold bz
 repeat' split
 all_goals first|exact trivial|(simp only[TK,Xw,tkVs_app];exact h)
def tk_stuck:TK c .stuck:=trivial
def aaV{e:Int}{m:Ma} : TK c (.no e m):=trivial
def UO(h:((tkVs st+tkF F:Nat):Int) - mi<=c):TK c (.go ⟨p,mi,sd,st,F⟩):=h
def abb{q:Prop}[Decidable q]{a b:Out}(h:q->TK c a)(k:¬q->TK c b):TK c (if q then a else b):=by split<;>rename_i e;exact h e;exact k e
end
def Lv{k n:Int}(h:k≠15):tkV (aW k n)=0:=by simp[aW,tkV,tkVs,h]
def aab(a b:Int):(rH a b).1≠15/\(rH a b).2≠15:=by
 unfold rH;repeat' split
 all_goals decide
def aaC(p a b : Int) : mK p a b≠15 :=by
 unfold mK;repeat' split
 all_goals decide
def XM{a b:Int}(h:(addN a b).2=0):(addN a b).1=a+b:=by
 unfold addN kF at *
 repeat' split at h
 all_goals first|(cases h;done)|(split<;>first|rfl|simp_all)
def aba(en:En){n:Tr}{m:Ma}(h:TC n m.st):TK (Xw m) (Qy en n m):=by
 obtain⟨p,mi,sd,st,fr⟩:=m;simp only at h;unfold Qy;simp only[Xw]
 repeat' (with_reducible first|exact tk_stuck|exact aaV|(apply abb<;>intro _)|split|(first|unfold p9|unfold l8|unfold il|unfold gJ|unfold mq|unfold gL|unfold xm|unfold jQ|unfold iB|unfold iw|unfold jP|unfold oV|unfold Gu);try dsimp only)
 all_goals first
  | exact UO (by simp only[*,DF,tkVs,tkVs_app,tkVs_rev,tkF];omega)
  | exact ou _ (by simp only[*,DF,tkVs,tkVs_app,tkVs_rev,tkF,mkV,aW,aV,noneV,aY,di,aZ,nE,aM,Va.k,Va.n,Va.args,Int.reduceEq,if_true,if_false];omega)
  | skip
 .rename_i v e;exact ou _ (by have:=h.dup oS v e;simp only[tkVs];omega)
 .rename_i v e;exact UO (by have:=abp e;simp only[tkVs];omega)
 .rename_i v s c;exact UO (by have:=Xx s (dK n 0).n0.toNat;simp only[tkVs_app,tkVs];omega)
 .rename_i e;exact ou _ (by have:=UQ e;simp only[tkVs];omega)
 .rename_i e;exact ou _ (by have:=UQ e;simp only[tkVs]at this|-;omega)
 .rename_i e1 _ _ _ _ e;exact ou _ (by have q:=UQ e;have r:=km (tk_mem (zj e1)) (DC _);simp only[tkVs]at q;rw[tkVs,tkVs,aV,mkV,tkV,if_neg ov];simp only[tkVs];omega)
 .rename_i a _ _ b _ _ _ c s _ _;have u:=abd (l:=c.args) (key:=a) (h.upd od a b _ rfl);have:=DC b;have:=DC c;exact ou _ (by rw[tkVs,tkVs,mkV,tkV,if_neg ov];simp only[tkVs];omega)
 .rename_i v s _ _ _ _;exact ou _ (by have:=abe n.p0 v;simp only[tkVs,tkF];omega)
 .exact ou _ (by rw[tkVs,tkVs,aV,mkV,tkV,if_neg ov,tkVs,tkVs,aY,mkV,tkV,if_neg ov,tkVs,tkVs,tkVs,Lv (aab _ _).1,Lv (aab _ _).2];simp only[tkVs];omega)
 .exact ou _ (by rw[tkVs,tkVs,Lv (aaC _ _ _)];simp only[tkVs];omega)
 .rename_i v e;exact ou _ (by have:=h.push oS v e;simp only[tkVs];omega)
 .rename_i v e;exact ou _ (by have:=h.unp oS _ v e;rw[tkVs,tkVs,aV,mkV,tkV,if_neg ov];simp only[tkVs];omega)
 .rename_i a _ _ b s _ c;exact ou _ (by have q:=h.Ze oS a b _ rfl;have r:=XM c;rw[tkVs,tkVs,aV,mkV,tkV,if_neg ov,tkVs,tkVs,aM,tkV,if_pos rfl];simp only[tkVs];omega)
 .rename_i a s _ _ _ _ _ e;exact ou _ (by have q:=(h.rd (.inl oS) a _ rfl).2;rw[e]at q;simp only[tkVs]at q;rw[tkVs,tkVs,tkVs,aY,mkV,tkV,if_neg ov,tkVs,tkVs,tkVs,Lv ov,aY,mkV,tkV,if_neg ov,tkVs,tkVs,tkVs,Lv ov];simp only[tkVs];omega)
 .rename_i a _ _ _ _ _ b s x l e1 _ y z _ e c;have q:=h.rd (.inr oS) a _ rfl;have u:=h.spl oS a b _ rfl y z _ e;have w:RowKit.wrap64 (y.n+z.n)=a.n:=by
   have:=(not_or.1 (not_or.1 c).2).2;simpa using this
  have w2:y.n+z.n=a.n:=by rw[<-w];unfold RowKit.wrap64;omega
  have v:=DF a;rw[if_pos q.1,q.2]at v;have q2:=q.2;rw[e1]at q2;simp only[tkVs]at q2;exact ou _ (by rw[tkVs,tkVs,aV,mkV,tkV,if_neg ov,tkVs,tkVs,aY,mkV,tkV,if_neg ov,tkVs,tkVs,tkVs,aM,tkV,if_pos rfl,aM,tkV,if_pos rfl];simp only[tkVs];omega)
 .rename_i a s _ _ _ _ y z _ e3 _ _ u _ x _ e1 e2 _ c;have k:=h.jn od a _ rfl y z _ e3;have q:=UQ e3;have q1:=UQ e1;have r:=XM c;have v1:=DF y;have v2:=DF z;rw[if_pos k.1,e1,tkVs]at v1;rw[if_pos k.2]at v2;simp only[tkVs]at q;exact ou _ (by rw[tkVs,tkVs,aV,mkV,tkV,if_neg ov,tkVs,tkVs,aM,tkV,if_pos rfl];simp only[tkVs];omega)
def aap{aC c:Int}{m:Ma}{k:Ma->Out}(h:TK c (k { m with paid:=m.paid+1 })):TK c (uH aC m k):=by
 unfold uH;split
 .exact aaV
 .exact h
def aao{aC:Int}{f:Fr}{a:List Fr}{m:Ma}(c:m.fr=f::a):TK (Xw m) (Bz aC f a m):=by
 have⟨p,mi,sd,st,b⟩:=m;obtain rfl:b=f::a:=c;unfold Bz;simp only[Xw,tkF]
 repeat' split
 all_goals first
  | exact tk_stuck
  | (refine aap ?_;refine UO ?_)
  | refine UO ?_
 all_goals first
  | (rename_i e;rw[e];simp only[tkVs,tkF];omega)
  | ((try simp only[tkVs,tkVs_app,tkVs_rev,tkF]);omega)
def aaI{en:En}{aC:Int}{S:ao}{m:Ma}(k:WT aC S m):TK (Xw m) (uB en aC m):=by
 unfold uB;split
 .exact tk_stuck
 .rename_i f b a
  cases j:f.rest with
  | nil=>exact aao a
  | cons n l =>
   have⟨s,hF,d⟩:=k.typed;rw[a]at d;have⟨_,z,i,_⟩:=d;have⟨N,g,x,y,_,_,c,_⟩:=GD j i;have e:Xw { m with fr:=⟨l,f.op,f.row,f.aside⟩::b }=Xw m:=by simp only[Xw,a,tkF]
   show TK _ (Iq en aC n { m with fr:=⟨l,f.op,f.row,f.aside⟩::b });rw[<-e];unfold Iq;split
   .simp only[TK,Xw,tkF,tkVs];omega
   .rename_i h;refine aap ?_;exact aba en (m:={ m with fr:=⟨l,f.op,f.row,f.aside⟩::b,paid:=m.paid+1 }) (abo c h hF)
def ZP{en:En}{aC:Int}{S:ao}(b:yH en)(i:S.length<=342):∀(N:Nat) (m m':Ma),WT aC S m->fq en aC N m =.go m'->(tkVs m'.st:Int) - m'.aO<=Xw m
 | 0,m,m',_,h=>by cases h
 | N+1,m,m',j,h=>by
  cases a:m.fr with
  | nil =>
   rw[fq,a]at h;cases h;simp only[Xw,a,tkF];omega
  | cons f l =>
   rw[fq,a]at h;have d:=Fa b j i (by rw[a];simp);have g:=aaI (en:=en) j
   cases c:uB en aC m with
   | stuck=>rw[c]at h;cases h
   | no e k=>rw[c]at h;cases h
   | go k =>
    rw[c]at h d g;exact Int.le_trans (ZP b i N k m' d.1 h) g
open Go.ChangeShapes Go.WideShapes Go.ChangeAt Go.RowKit
variable {K:br}
def Uf:(prog.info? 24).map (λi=>(i.zero,i.size,i.bytes))=some (some (.n0),1,24):=oA
def AU (B:Nat) (w:bx) (v:cg) (vs:bk):Prop:=w.ownsRow B 24 1 v vs.length vs
def bI.Y5{ok:br}{w:bx}{t:Tr}{v:cg}(h:bI ok w t v):∀{k n p:Int}{s:bo}{a:bj}{l c:Nat},v=Go.Proofs.YtgfdimkbfnpepaaGreat.af k n p s a l c->l<=c:=by
 cases h with
 | mk V d g j i m b f =>
  intro k n p s a l c e;simp only[Go.Proofs.YtgfdimkbfnpepaaGreat.af,qd7,qf0,xo,kl,and_true]at e;omega
structure kP (K:br) (WB w:bx) (ib:Nat) (types:ao) (rows:List aE) (tv rv:cg) (vs rvs:bk):Prop where
 grow:cm WB w (some ib)
 lt:ib<WB.heap.size
 nR:wS WB.heap.size w tv vs
 CU:vs.length=types.length
 LF:∀(k:Nat) (t:Ty) (u:cg),types[k]?=some t->vs[k]?=some u->aH (λb=>WB.heap.size<=b/\some b≠tv.ownBlock/\some b≠rv.ownBlock) w t u
 sD:AU WB.heap.size w rv rvs
 CS:rvs.length=rows.length
 LD:∀(k:Nat) (l:aE) (u:cg),rows[k]?=some l->rvs[k]?=some u->∃na nc VN,u =.slice na l.length nc/\l.length<=nc/\cK (λb=>K b/\b+1<ib) WB l na VN
def BL{w:bx}{B C:Nat}{e c:TypeId}{size a n l:Nat}{v v':cg}{xs b:bk}(h:w.ownsRow B e size v n xs)(i:w.ownsRow C c a v' l b)(j:e≠c):v.ownBlock=none\/v.ownBlock≠v'.ownBlock:=by
 rcases h.2 with⟨rfl,_⟩|⟨g,d,f,rfl,_,k,_⟩
 .exact .inl rfl
 .exact .inr (aD i k (Ne.symm j))
def kP.step{f w w':bx}{a:Nat}{types:ao}{rows:List aE}{i g:cg}{vs c:bk}(h:kP K f w a types rows i g vs c)(d:cm w w' (some a)):kP K f w' a types rows i g vs c:=by
 have m:=h.lt;refine⟨fF h.grow d,h.lt,yq h.nR d ?_,h.CU,λk t u n p=>(h.LF k t u n p).same ?_,yq h.sD d ?_,h.CS,h.LD⟩
 .refine .inr λe=>?_;have:=(zp h.nR a e).1;omega
 .intro b o j l;exact qt (d.block b l (by have:=j.1;simp;omega))
 .refine .inr λe=>?_;have:=(zp h.sD a e).1;omega
def kP.call{b w w':bx}{c:Nat}{types:ao}{rows:List aE}{e d:cg}{vs a:bk}(h:kP K b w c types rows e d vs a)(f:cm w w' none):kP K b w' c types rows e d vs a:=h.step (kL f)
def kP.YI{j w w':bx}{z:Nat}{types:ao}{rows:List aE}{tv m a:cg}{vs p:bk}{t:Ty}{u:cg}{S:Nat}(h:kP K j w z types rows tv m vs p)(J:j.heap.size<=S)(r:∀k,tv.ownBlock=some k->k<S)(C:∀k,m.ownBlock=some k->k<S)(D:aH (S <= ·) w t u)(d:Gr w tv w' a)(H:wS j.heap.size w' a (vs++[u])) :
 kP K j w' z (types++[t]) rows a m (vs++[u]) p:=by
 have n:=h.lt;have s:=BL h.sD h.nR ov;have v:∀t u,aH (λb=>j.heap.size<=b/\some b≠tv.ownBlock/\some b≠m.ownBlock) w t u->aH (λb=>j.heap.size<=b/\some b≠a.ownBlock/\some b≠m.ownBlock) w' t u:=by
  intro t u G;have r:=G.ae (ok':=λb=>j.heap.size<=b/\some b≠tv.ownBlock/\some b≠a.ownBlock/\some b≠m.ownBlock) (λb c hk=>⟨hk.1,hk.2.1,by
   rcases d.2 with e|⟨g,e,F⟩
   .rw[e];exact hk.2.1
   .rw[e];simp;omega,hk.2.2⟩)
  refine (r.same (w':=w') ?_).ae (λb _ c=>⟨c.1,c.2.2.1,c.2.2.2⟩);intro b o c n;exact qt (d.block n c.2.1)
 refine⟨?_,h.lt,H,by simp[h.CU],λk A B f l=>v A B ?_,yq h.sD d.1 s,h.CS,h.LD⟩
 .refine⟨d.1.os.trans h.grow.os,d.1.tape.trans h.grow.tape,d.1.output.trans h.grow.output,km h.grow.size d.1.size,λi x I=>(d.1.block i (ki x h.grow.size) (λe=>by have:=(zp h.nR i e.symm).1;omega)).trans (h.grow.block i x I)⟩
 .by_cases hk:k<types.length
  .rw[jz hk]at f;rw[jz (by rw[h.CU];exact hk)]at l;exact h.LF k A B f l
  .rw[ju od]at f;rw[ju (by rw[h.CU];omega),h.CU]at l
   cases y:k - types.length with
   | zero =>
    rw[y]at f l;simp at f l;subst f;subst l;exact D.ae (λb _ c=>by
     have E:S<=b:=c;refine⟨od,λe=>?_,λe=>?_⟩
     .have:=r b e.symm;omega
     .have:=C b e.symm;omega)
   | succ q=>rw[y]at f;simp at f
def kP.YH{j w w':bx}{y:Nat}{types:ao}{rows:List aE}{tv s a:cg}{vs m:bk}{l:aE}{na:bj}{nc:Nat}{VN:bt}(h:kP K j w y types rows tv s vs m)(E:cK (λb=>K b/\b+1<y) j l na VN)(p:l.length<=nc)(d:Gr w s w' a)(H:AU j.heap.size w' a (m++[.slice na l.length nc])) :
 kP K j w' y types (rows++[l]) tv a vs (m++[.slice na l.length nc]):=by
 have r:=h.lt;have x:=BL h.nR h.sD ov;have z:∀t u,aH (λb=>j.heap.size<=b/\some b≠tv.ownBlock/\some b≠s.ownBlock) w t u->aH (λb=>j.heap.size<=b/\some b≠tv.ownBlock/\some b≠a.ownBlock) w' t u:=by
  intro t u G;have D:=G.ae (ok':=λb=>j.heap.size<=b/\some b≠s.ownBlock/\some b≠tv.ownBlock/\some b≠a.ownBlock) (λb n hk=>⟨hk.1,hk.2.2,hk.2.1,by
   rcases d.2 with e|⟨g,e,F⟩
   .rw[e];exact hk.2.2
   .rw[e];simp;omega⟩)
  refine (D.same (w':=w') ?_).ae (λb _ n=>⟨n.1,n.2.2.1,n.2.2.2⟩);intro b o n r;exact qt (d.block r n.2.1)
 refine⟨?_,h.lt,yq h.nR d.1 x,h.CU,λk C v c f=>z C v (h.LF k C v c f),H,by simp[h.CS],λk J v c f=>?_⟩
 .refine⟨d.1.os.trans h.grow.os,d.1.tape.trans h.grow.tape,d.1.output.trans h.grow.output,km h.grow.size d.1.size,λi A I=>(d.1.block i (ki A h.grow.size) (λe=>by have:=(zp h.sD i e.symm).1;omega)).trans (h.grow.block i A I)⟩
 .by_cases hk:k<rows.length
  .rw[jz hk]at c;rw[jz (by rw[h.CS];exact hk)]at f;exact h.LD k J v c f
  .rw[ju od]at c;rw[ju (by rw[h.CS];omega),h.CS]at f
   cases B:k - rows.length with
   | zero =>
    rw[B]at c f;simp at c f;subst c;subst f;exact⟨na,nc,VN,rfl,p,E⟩
   | succ q=>rw[B]at c;simp at c
def nA (K:br) (WB w:bx) (ib:Nat) (i:Ins):Prop :=
 ∃(tv rv:cg) (vs rvs:bk) (da:bj) (dc:Nat),w.heap[ib]?=some (.cells #[.i i.p,.i i.n,tv,rv,.i i.data.k0,.i i.data.n0,.i i.data.p0,.string i.data.s0,.slice da i.data.args0.length dc] 104 (0,0)) /\
  kP K WB w ib i.types i.rows tv rv vs rvs/\bI (λb=>K b/\b+1<ib) WB i.data (af i.data.k0 i.data.n0 i.data.p0 i.data.s0 da i.data.args0.length dc)
def nA.call{b w w':bx}{d:Nat}{i:Ins}(h:nA K b w d i)(c:cm w w' none):nA K b w' d i:=by have⟨m,l,n,a,e,f,g,j,k⟩:=h;exact⟨m,l,n,a,e,f,l5 g c,j.call c,k⟩
def vB{w:bx}{B:Nat}{e:TypeId}{size n:Nat}{v:cg}{xs:bk}(h:w.ownsRow B e size v n xs):∃a c,v =.slice a n c/\n<=c:=by
 rcases h.2 with⟨rfl,rfl⟩|⟨g,b,d,rfl,_,_,f,_⟩
 .exact⟨none,0,rfl,qS _⟩
 .exact⟨_,b,rfl,f⟩
def PM (J:br) (w:bx) (rows:List aE) (a:bj):Prop :=
 ∀(k:Nat) (l:aE),rows[k]?=some l->∃b o na nc VN,a=some ⟨b,o,none⟩/\(J b/\l.length<=nc)/\w.cell? ⟨b,o+k,none⟩=some (.slice na l.length nc)/\cK J w l na VN
def PM.mono{J J':br}{w:bx}{rows:List aE}{a:bj}(h:PM J w rows a)(d:∀b,J b->J' b):PM J' w rows a:=λk l m=>by have⟨b,o,n,p,f,e,c,g,i⟩:=h k l m;exact⟨b,o,n,p,f,e,⟨d b c.1,c.2⟩,g,i.ae (λb _ j=>d b j)⟩
def nA.done{s w w':bx}{z rb:Nat}{i:Ins}(h:nA K s w z i)(x:cm w w' (some rb))(Z:rb+1=z):∃(ta:bj) (tc:Nat) (ra:bj) (rc:Nat) (da:bj) (A:Nat),
 w.heap[z]?=some (.cells #[.i i.p,.i i.n,.slice ta i.types.length tc,.slice ra i.rows.length rc,.i i.data.k0,.i i.data.n0,.i i.data.p0,.string i.data.s0,.slice da i.data.args0.length A] 104 (0,0)) /\
 (i.types.length<=tc/\∃V,dw (s.heap.size <= ·) w' i.types ta V)/\PM (λb=>K b\/s.heap.size<=b) w' i.rows ra/\i.rows.length<=rc/\bI K w' i.data (af i.data.k0 i.data.n0 i.data.p0 i.data.s0 da i.data.args0.length A):=by
 have⟨tv,rv,P,f,da,A,J,d,R⟩:=h;obtain⟨ta,tc,rfl,_⟩:=vB d.nR;obtain⟨ra,rc,rfl,H⟩:=vB d.sD;have Y:=d.lt;have aa:=d.grow.size;have j:Same (λb=>K b/\b+1<z) s w':=λb o B G=>by have X:b+1<z:=B.2;exact (qt (x.block b (by show b<_;omega) oB)).trans (qt (d.grow.block b G oB))
 have F:gz s.heap.size w (.slice ta P.length tc) i.types P:=⟨d.nR,d.CU,λk t u ht I=>(d.LF k t u ht I).ae (λb _ B=>⟨B.1,B.2.1⟩)⟩;have hk:=F.keep x od;have hR:AU s.heap.size w' (.slice ra f.length rc) f:=yq d.sD x (.inr λe=>by have:=(zp d.sD rb e).1;omega);have⟨a,c,V,e,k1,k2⟩:=hk.done;simp only[kl]at e;obtain⟨rfl,_,rfl⟩:=e;have M:i.types.length<=maxLen/\i.types.length<=tc:=by
  have G:=d.CU;rcases d.nR.2 with⟨r,D⟩|⟨g,C,q,r,_,_,S,T,_⟩
  .rw[G]at D;rw[D];exact⟨zE _,zE _⟩
  .simp only[kl]at r;obtain⟨_,_,rfl⟩:=r;exact⟨od,od⟩
 rw[d.CU,d.CS]at J;refine⟨ta,tc,ra,rc,da,A,J,⟨M.2,V,M.1,k1,k2⟩,λk l y=>?_,by rw[<-d.CS];exact H,(R.same j).ae (λ_ _ h=>h.1)⟩;have m:k<f.length:=by rw[d.CS];exact (qv.1 y).1
 have⟨N,O,Q,I,v,hN⟩:=d.LD k l f[k] y (qn m);rcases hR.2 with⟨r,D⟩|⟨g,C,q,r,E,x,S,_,T,U⟩
 .omega
 .simp only[kl]at r;obtain⟨rfl,_,rfl⟩:=r;refine⟨g,0,N,O,Q,rfl,⟨.inr E,v⟩,?_,(hN.same j).ae (λ_ _ h=>.inl h.1)⟩;have L:(q.toList.take (f.length*1))[k]?=f[k]?:=by rw[U]
  rw[qb4,oc,qn m,I]at L;have W:q[k]?=some (.slice N l.length O):=by simpa using L
  simp[World.cell?,x,W]
variable {K:br}
def pM{w:bx}{g:Nat}{T:TypeId}{x0 a b c d e f i j:cg}(h:w.heap[g]?=some (.cells #[x0,a,b,c,d,e,f,i,j] T (0,0))):∀o,w.frozen? ⟨g,o,none⟩=false:=by intro o;simp[World.frozen?,h]
def XE{w:bx}{g:Nat}{T:TypeId}{x0 j a b c d e f i:cg}(h:w.heap[g]?=some (.cells #[x0,j,a,b,c,d,e,f,i] T (0,0)))(y:cg):(w.setCell ⟨g,1,none⟩ y).heap[g]?=some (.cells #[x0,y,a,b,c,d,e,f,i] T (0,0)):=by simp[World.setCell,ux,h]
def XF{w:bx}{g:Nat}{T:TypeId}{x0 a j b c d e f i:cg}(h:w.heap[g]?=some (.cells #[x0,a,j,b,c,d,e,f,i] T (0,0)))(y:cg):(w.setCell ⟨g,2,none⟩ y).heap[g]?=some (.cells #[x0,a,y,b,c,d,e,f,i] T (0,0)):=by simp[World.setCell,ux,h]
def XG{w:bx}{g:Nat}{T:TypeId}{x0 a b j c d e f i:cg}(h:w.heap[g]?=some (.cells #[x0,a,b,j,c,d,e,f,i] T (0,0)))(y:cg):(w.setCell ⟨g,3,none⟩ y).heap[g]?=some (.cells #[x0,a,b,y,c,d,e,f,i] T (0,0)):=by simp[World.setCell,ux,h]
def XH{w:bx}{g:Nat}{T:TypeId}{x0 a b c k l m n o:cg}(h:w.heap[g]?=some (.cells #[x0,a,b,c,k,l,m,n,o] T (0,0)))(d e f i j:cg):(((((w.setCell ⟨g,4,none⟩ d).setCell ⟨g,5,none⟩ e).setCell ⟨g,6,none⟩ f).setCell ⟨g,7,none⟩ i).setCell ⟨g,8,none⟩ j).heap[g]?=some (.cells #[x0,a,b,c,d,e,f,i,j] T (0,0)):=by simp[World.setCell,ux,h]
def lG (K:br) (WB:bx) (ib:Nat) (i:Ins) (f:UInt8) (t:Tr) (e:Ending) (w':bx):Prop :=
 ∃ok,e =.returned (.bool ok)/\cm WB w' (some ib)/\((ok=false/\iy i f t=none)\/(ok/\∃j,iy i f t=some j/\nA K WB w' ib j))
def uN{a w':bx}{b:Nat}{i:Ins}{f:UInt8}{t:Tr}(h:iy i f t=none)(c:cm a w' (some b)):lG K a b i f t (.returned (.bool false)) w':=⟨false,rfl,c,.inl ⟨rfl,h⟩⟩
def yC{a w':bx}{b:Nat}{i j:Ins}{f:UInt8}{t:Tr}(h:iy i f t=some j)(c:cm a w' (some b))(d:nA K a w' b j):lG K a b i f t (.returned (.bool true)) w':=⟨true,rfl,c,.inr ⟨rfl,j,h,d⟩⟩
def Vq{o W:bx}{j:Nat}{i:Ins}{t:Tr}{G:cg}(O:nA K o W j i)(B:bI (λb=>K b/\b+1<j) o t G) :
 Calls prog 101 #[.po j,.int .u8 110,G] W (lG K o j i 110 t):=by
 have⟨tv,V,X,x,I,J,q,C,A⟩:=O;have⟨s,u,Y,y,⟨ik,iN,ip,P⟩,p⟩:=B.yX;rw[y];unfold af;have g:=aK (w:=W) (.cells #[.i t.k0,.i t.n0,.i t.p0,.string t.s0,.slice s t.args0.length u] 26);have d:=jj W (.cells #[.i t.k0,.i t.n0,.i t.p0,.string t.s0,.slice s t.args0.length u] 26);have c:=l5 q g;have k:=C.call g;have r:W.heap.size≠j:=by have:=(qq.1 q).1;omega
 have E:=XE c (.i t.n0);have h:=dY (bM (W.alloc (.cells #[.i t.k0,.i t.n0,.i t.p0,.string t.s0,.slice s t.args0.length u] 26)) (some j)) 1 none (.i t.n0);have f:=k.step h;have e:=(h.block W.heap.size (qq.1 d).1 (by simpa using r)).trans d;have l:=f.grow;have H:Hid (nA K o _ j { i with n:=t.n0 }):=⟨tv,V,X,x,I,J,E,f,A⟩;have a:=jh l;have⟨m0,m1,m2,m3,m4⟩:=bE d;have⟨Q,R,S,T,U⟩:=bE e;have fr:=pM c;have⟨Z,c1,c2,c3,_⟩:=nL c;have D:iy i 110 t=if t.k0=0/\0<=t.n0/\t.n0<=40 then some { i with n:=t.n0 } else none:=by simp[iy]
 have m:=jh D;clear D l e f h E k c g d C A q B p y;generalize t.k0=F at *;generalize t.n0=v at *
 by_cases z:F=0
 .subst z
  by_cases M:0<=v
  .by_cases N:v<=40
   .go_enter func101,ntmps101;go_wp2;go_ret;exact yC (show iy i 110 t=some { i with n:=v } by rw[m.out];simp[M,N]) a H
   .go_enter func101,ntmps101;go_wp2;go_ret;exact uN (by rw[m.out,oa]) a
  .go_enter func101,ntmps101;go_wp2;go_ret;exact uN (by rw[m.out,oa]) a
 .have L:(F==0)=false:=by simpa using z
  go_enter func101,ntmps101;go_wp2;go_ret;exact uN (by rw[m.out,oa]) a
variable {K:br}
def UC{w:bx}{B n g cap:Nat}{e:TypeId}{xs:bk}{b c:cg}(h:w.ownsRow B e 2 (.o g (n+1) cap) (n+1) (xs++[b,c])) :
 w.cell? ⟨g,n*2,none⟩=some b/\w.cell? ⟨g,n*2+1,none⟩=some c/\(∀o,w.frozen? ⟨g,o,none⟩=false)/\B<=g:=by
 have r:=h.1;simp at r;rcases h.2 with⟨d,_⟩|⟨s,i,a,d,q,f,t,u,v,l⟩
 .simp at d
 .simp only[kl,qk,qc7,and_true,true_and]at d;obtain⟨rfl,rfl⟩:=d;have j:(a.toList.take ((n+1)*2))[n*2]?=some b:=by rw[l,ju od];simp[show n*2 - xs.length=0 by omega]
  have k:(a.toList.take ((n+1)*2))[n*2+1]?=some c:=by rw[l,ju od];simp[show n*2+1 - xs.length=1 by omega]
  rw[qb4,oc]at j k;have m:a[n*2]?=some b:=by simpa using j
  have p:a[n*2+1]?=some c:=by simpa using k
  exact⟨by simp[World.cell?,f,m],by simp[World.cell?,f,p],λo=>by simp[World.frozen?,f],q⟩
def Ra{w:bx}{B n g cap:Nat}{e:TypeId}{xs:bk}{i j:cg}(d f:cg)(h:w.ownsRow B e 2 (.o g (n+1) cap) (n+1) (xs++[i,j])) :
 ((w.setCell ⟨g,n*2,none⟩ d).setCell ⟨g,n*2+1,none⟩ f).ownsRow B e 2 (.o g (n+1) cap) (n+1) (xs++[d,f]):=by
 have t:=h.1;simp at t;refine⟨oB,?_⟩;rcases h.2 with⟨b,_⟩|⟨x,l,a,b,p,q,m,r,o,s⟩
 .simp at b
 .simp only[kl,qk,qc7,and_true,true_and]at b;obtain⟨rfl,rfl⟩:=b;refine .inr ⟨g,cap,(a.setIfInBounds (n*2) d).setIfInBounds (n*2+1) f,rfl,p,?_,m,r,by simpa using o,?_⟩
  .simp[World.setCell,ux,q]
  .apply List.ext_getElem?;intro k;have hk:(a.toList.take ((n+1)*2))[k]?=(xs++[i,j])[k]?:=by rw[s]
   by_cases c:k<(n+1)*2
   .rw[qb4,if_pos c]at hk|-
    by_cases v:k<xs.length
    .rw[jz v]at hk|-;rw[<-hk];simp only[Array.toList_setIfInBounds];rw[qe3 od,qe3 od]
    .have u:(n+1)*2<=a.size:=by rw[o];exact qh1 2 m
     rcases (show k=n*2\/k=n*2+1 by omega)with rfl|rfl
     .rw[ju od,show n*2 - xs.length=0 by omega];simp only[Array.toList_setIfInBounds];rw[qe3 od,qh3 oB];rfl
     .rw[ju od,show n*2+1 - xs.length=1 by omega];simp only[Array.toList_setIfInBounds];rw[qh3 oB];rfl
   .rw[jc5 oB,jc5 oB]
def bu{w:bx}{g h o p:Nat}(x y:cg)(c:g≠h):(w.setCell ⟨g,o,none⟩ x).setCell ⟨h,p,none⟩ y=(w.setCell ⟨h,p,none⟩ y).setCell ⟨g,o,none⟩ x:=by
 simp only[World.setCell]
 congr 1
 apply Array.ext_getElem?;intro k;simp only[ux]
 by_cases a:h=k<;>by_cases b:g=k
 .omega
 .simp[a,b]
 .simp[a,b]
 .simp[a,b]
def NY{w:bx}{B g cap:Nat}{vs:bk}{k:Int}{sa:bj}{sl sc:Nat}(h:wS B w (.o g (vs.length+1) cap) (vs++[bY 0 none 0 0])) :
 wS B ((w.setCell ⟨g,vs.length*2,none⟩ (.i k)).setCell ⟨g,vs.length*2+1,none⟩ (.slice sa sl sc)) (.o g (vs.length+1) cap) (vs++[bY k sa sl sc]):=by
 unfold wS at h|-;simp only[dx,qT,qa1]at h|-;exact Ra _ _ h
def zt{w:bx}{B g cap:Nat}{vs:bk}(h:wS B w (.o g (vs.length+1) cap) (vs++[bY 0 none 0 0])) :
 w.cell? ⟨g,vs.length*2,none⟩=some (.i 0)/\w.cell? ⟨g,vs.length*2+1,none⟩=some (.n0)/\(∀o,w.frozen? ⟨g,o,none⟩=false)/\B<=g:=by
 unfold wS at h;simp only[dx,qT,qa1]at h;exact UC h
def Qt{w w':bx}{v:cg}{g n cap:Nat}(h:Gr w v w' (.o g n cap))(o:Nat)(x:cg):Gr w v (w'.setCell ⟨g,o,none⟩ x) (.o g n cap):=by
 refine⟨?_,h.2⟩;have a:=dY (bM w' (some g)) o none x;refine⟨a.os.trans h.1.os,a.tape.trans h.1.tape,a.output.trans h.1.output,km h.1.size a.size,λk hk c=>?_⟩;refine (a.block k (ki hk h.1.size) (λe=>?_)).trans (h.1.block k hk c);rcases h.2 with b|⟨f,b,d⟩
 .rw[<-b]at c;exact c e
 .simp[Value.ownBlock]at b;simp at e;omega
variable {K:br}
def wu.form{t:Tr}{W:bx}{e:Ending}{w':bx}(h:wu t W e w'):∃T l f k g b,e =.returned (.tuple #[.agg #[.i l,.slice f k g],.i b])/\cm W w' none/\aH (W.heap.size <= ·) w' T (bY l f k g)/\((b=0/\fu t/\T=kreadT t)\/(b=1/\fu t=false)):=by
 rcases h.2 with⟨d,u,rfl,j⟩|⟨d,rfl⟩
 .have⟨a,c,V,e,_⟩:=j.inv;subst e;exact⟨_,_,_,_,_,_,rfl,h.1,j,.inl ⟨rfl,d,rfl⟩⟩
 .exact⟨.nd 0 [],0,none,0,0,1,rfl,h.1,aH.ofRow ⟨ov,ov⟩ (qS _) (dw.nil _ _ _ (λ_=>.i 0)),.inr ⟨rfl,d⟩⟩
def dh{d w0 r:bx}{c:Nat}{i:Ins}{t:Tr}{f:UInt8}{C:cg}{ta da:bj}{tc s g cap:Nat}{vs D:bk}{T:Ty}{q:Int}{e:bj}{o h S:Nat}{u:Int}(y:f=116\/f=117)
 (hM:kP K d w0 c i.types i.rows (.slice ta vs.length tc) C vs D) (hB:w0.heap[c]?=some (.cells #[.i i.p,.i i.n,.slice ta vs.length tc,C,.i i.data.k0,.i i.data.n0,.i i.data.p0,.string i.data.s0,.slice da i.data.args0.length s] 104 (0,0)))
 (hD:bI (λb=>K b/\b+1<c) d i.data (af i.data.k0 i.data.n0 i.data.p0 i.data.s0 da i.data.args0.length s))
 (hS:d.heap.size<=S) (h1:∀k,(Value.slice ta vs.length tc).ownBlock=some k->k<S) (h2:∀k,C.ownBlock=some k->k<S) (hT:aH (S <= ·) w0 T (bY q e o h))
 (ho:wS d.heap.size r (.o g (vs.length+1) cap) (vs++[bY 0 none 0 0])) (hg:Gr w0 (.slice ta vs.length tc) r (.o g (vs.length+1) cap))
 (hc:(u=0/\fu t/\T=kreadT t)\/(u=1/\fu t=false)) :
 lG K d c i f t (.returned (.bool (u==0))) (((r.setCell ⟨g,vs.length*2,none⟩ (.i q)).setCell ⟨g,vs.length*2+1,none⟩ (.slice e o h)).setCell ⟨c,2,none⟩ (.o g (vs.length+1) cap)):=by
 have m:=Qt (Qt hg (vs.length*2) (.i q)) (vs.length*2+1) (.slice e o h);have A:=NY (k:=q) (sa:=e) (sl:=o) (sc:=h) ho;have x:=hM.YI hS h1 h2 hT m A;have E:=hM.lt;have v:=(m.block (qq.1 hB).1 (aD hM.nR hB ov)).trans hB;have z:=dY (bM ((r.setCell ⟨g,vs.length*2,none⟩ (.i q)).setCell ⟨g,vs.length*2+1,none⟩ (.slice e o h)) (some c)) 2 none (.o g (vs.length+1) cap);have a:=x.step z;have w:=XF v (.o g (vs.length+1) cap);have l:¬f=110:=by rcases y with rfl|rfl<;>decide
 rcases hc with⟨rfl,B,rfl⟩|⟨rfl,B⟩
 .refine yC (j:={ i with types:=i.types++[kreadT t] }) ?_ a.grow ⟨_,_,_,_,da,s,w,a,hD⟩;unfold iy;rw[if_neg l,if_pos y,if_pos B]
 .refine uN ?_ a.grow;unfold iy;rw[if_neg l,if_pos y,if_neg (by simp[B])]
def oh{e w0 m:bx}{d:Nat}{i:Ins}{t:Tr}{f:UInt8}{tv:cg}{ra da na:bj}{rc o nc g cap:Nat}{vs a:bk}{VN:bt}(l:f=99\/f=100)
 (hM:kP K e w0 d i.types i.rows tv (.slice ra a.length rc) vs a) (hB:w0.heap[d]?=some (.cells #[.i i.p,.i i.n,tv,.slice ra a.length rc,.i i.data.k0,.i i.data.n0,.i i.data.p0,.string i.data.s0,.slice da i.data.args0.length o] 104 (0,0)))
 (hD:bI (λb=>K b/\b+1<d) e i.data (af i.data.k0 i.data.n0 i.data.p0 i.data.s0 da i.data.args0.length o))
 (hN:cK (λb=>K b/\b+1<d) e t.args0 na VN/\t.args0.length<=nc)
 (ho:AU e.heap.size m (.o g (a.length+1) cap) (a++[.slice na t.args0.length nc])) (hg:Gr w0 (.slice ra a.length rc) m (.o g (a.length+1) cap)) :
 lG K e d i f t (.returned (.bool (t.k0==3))) (m.setCell ⟨d,3,none⟩ (.o g (a.length+1) cap)):=by
 have s:=hM.YH hN.1 hN.2 hg ho;have q:=(hg.block (qq.1 hB).1 (aD hM.sD hB ov)).trans hB;have u:=dY (bM m (some d)) 3 none (.o g (a.length+1) cap);have c:=s.step u;have r:=XG q (.o g (a.length+1) cap);have h:¬f=110:=by rcases l with rfl|rfl<;>decide
 have k:¬(f=116\/f=117):=by rcases l with rfl|rfl<;>decide
 by_cases hk:t.k0=3
 .rw[show (t.k0==3) by simpa using hk];refine yC (j:={ i with rows:=i.rows++[t.args0] }) ?_ c.grow ⟨_,_,_,_,da,o,r,c,hD⟩;unfold iy;rw[if_neg h,if_neg k,if_pos l,if_pos hk]
 .rw[show (t.k0==3)=false by simpa using hk];refine uN ?_ c.grow;unfold iy;rw[if_neg h,if_neg k,if_pos l,if_neg hk]
def zA{b:Array Oper}{o:Oper}{a:Act}{K:Act->bx->Prop}{Q:Exit->Act->bx->Prop}{E:Prop}(B:Nat)(vs:bk)(sa:bj)(sl sc:Nat)(w0:bx)(v:cg)(d:o.guard=none)(s x:Operand)
 (ho:o.op =.call { callee:=.builtin .append,args:=#[s,x],argTypes:=#[102,102] }) (hs:a.eval s=v) {H:Nat} (hx:a.eval x =.o H 1 1) (hH:w0.heap.size=H)
 (hown:AU B w0 v vs) (hB:B<=w0.heap.size) (hlen:vs.length<=1000000000)
 (h:∀g cap w',AU B w' (.o g (vs.length+1) cap) (vs++[.slice sa sl sc])->Gr w0 v w' (.o g (vs.length+1) cap)->K (a.put o.dst (.o g (vs.length+1) cap)) w') :
 if Region.wanted o (yielded b a.tmps)then Oper.wp prog o a (w0.alloc (.cells #[.slice sa sl sc] 24)) K Q else E:=by
 have n:Region.wanted o (yielded b a.tmps):=by simp[Region.wanted,d]
 rw[if_pos n];have⟨p,m,e,f,i⟩:=ja0 Uf;subst hH;refine wp_append_lies _ s x 102 ho B 24 p _ 1 24 underlying102 m e f i rfl ov v vs.length vs hs (ue hown _) ⟨w0.heap.size,0,none⟩ 1 1 [.slice sa sl sc] hx rfl ?_ ?_ ov ?_ ?_ ?_ _ rfl ?_
 .exact jb0 (w:=w0.alloc _) (B:=w0.heap.size) (cs:=#[.slice sa sl sc]) (jj _ _)
 .intro u j;simp at j;subst j;rfl
 .unfold maxLen;omega
 .omega
 .simp;omega
 .intro g cap w' k l c _;refine h g cap w' ?_ ?_
  .unfold AU;rw[qT];exact k
  .refine Gr.trans (Gr.alloc (Gr.refl w0 v) _) ⟨l,?_⟩;rcases c with c|c
   .exact .inl c.symm
   .exact .inr ⟨g,rfl,od⟩
def R7{C W:bx}{B:Nat}{i:Ins}{t:Tr}{nv:cg}{f:UInt8}{c:Int}(hf:f=116/\c=116\/f=117/\c=117)(hI:nA K C W B i)(hL:bI (λb=>K b/\b+1<B) C t nv)(ba:i.types.length<=1000)(aC:i.rows.length<=1000) :
 Calls prog 101 #[.po B,.int .u8 c,nv] W (lG K C B i f t):=by
 have⟨tv,rv,A,bc,da,dc,X,hM,hD⟩:=hI;have⟨na,nc,VN,e1,⟨ik,iN,ip,aO⟩,ar⟩:=hL.yX;rw[e1];unfold af;have O:=aK (w:=W) (.cells #[.i t.k0,.i t.n0,.i t.p0,.string t.s0,.slice na t.args0.length nc] 26);have ad:=jj W (.cells #[.i t.k0,.i t.n0,.i t.p0,.string t.s0,.slice na t.args0.length nc] 26);have ab:=l5 X O;have F:=hM.call O;have⟨m0,m1,m2,m3,m4⟩:=bE ad;have H:Same (λb=>K b/\b+1<B) C (W.alloc (.cells #[.i t.k0,.i t.n0,.i t.p0,.string t.s0,.slice na t.args0.length nc] 26)):=λb o X hl=>qt (F.grow.block b hl (by have : b+1<B:=X.2;simp;omega));have HP:=jh (Bv ((hL.same H).ae (ok':=(· < (W.alloc (.cells #[.i t.k0,.i t.n0,.i t.p0,.string t.s0,.slice na t.args0.length nc] 26)).heap.size)) (λb X _=>X)));rw[e1]at HP;unfold af at HP;obtain⟨R,U,rfl,_⟩:=vB F.nR;have bb:A.length<=1000:=by have:=F.CU;omega
 have⟨z,I,aj⟩:=we hD F ab;clear O ad F ab hM hD X hL ar e1 H;have b1:(A.length:Int)<(A.length:Int)+1:=od
 have b2:(0:Int)<=(A.length:Int):=od
 have b3:A.length<A.length+1:=od
 rcases hf with⟨rfl,rfl⟩|⟨rfl,rfl⟩
 all_goals
  go_enter func101,ntmps101;go_wp2_with fail;generalize W.alloc _=W2 at *;refine HP.mono ?_;rintro e V ai;obtain⟨T,tt,Y,ll,Z,er,rfl,hg,M,G⟩:=ai.form;have Q:=aK (w:=V) (.cells #[.i tt,.slice Y ll Z] 54);have ah:=jj V (.cells #[.i tt,.slice Y ll Z] 54);have J:(V.alloc (.cells #[.i tt,.slice Y ll Z] 54)).grownBy (V.alloc (.cells #[.i tt,.slice Y ll Z] 54)).drew none:=fK (bM _ _);have P:=aJ hg (aJ Q J);have m:=jh (l5 aj P);have j:=jh (I.call P);have au:Same (W2.heap.size <= ·) V (V.alloc (.cells #[.i tt,.slice Y ll Z] 54)).drew:=λb o _ hl=>qt ((aJ Q J).block b hl ot);have u:=jh (M.same au);have s:Hid (C.heap.size<=W2.heap.size):=I.out.grow.size;have q:Hid (∀k,(Value.slice R A.length U).ownBlock=some k->k<W2.heap.size):=λk hk=>(zp I.nR k hk).2;have r:Hid (∀k,rv.ownBlock=some k->k<W2.heap.size):=λk hk=>(zp I.sD k hk).2;have N:=l5 ah J;have x0:=xq N;have x1:=wy N;have⟨c0,c1,c2,c3,_⟩:=nL m;have az:True:=trivial;have d:=jh G;have ax:=jh M;clear hg Q J ah P M m0 m1 m2 m3 m4 HP ai N G;go_wp2_with fail;refine ja7 (S:=λ_=>True) oA ?_ (λaq=>?_)
  .trivial
  generalize (V.alloc _).drew=L at *;have ay:=JJ (aK (w:=L) (.cells #[.i 0,.n0] 54)) c2;have bf:=JJ (aK (w:=L) (.cells #[.i 0,.n0] 54)) x0;have bh:=JJ (aK (w:=L) (.cells #[.i 0,.n0] 54)) x1;refine fG 0 38 ?_;refine fG 1 39 ?_;refine fG 2 40 ?_;refine kO (rs:=[3,4,6]) oA ot ?_;refine ke rfl (λK a=>?_) (ke rfl (λK a=>?_) (ke rfl (λK a=>?_) kp))
  .go_simp;refine a _ _ trivial (λ_=>?_);clear a K;refine fG 5 43 ?_;refine kO (rs:=[4,6]) oA ot ?_;refine ke rfl (λK a=>?_) (ke rfl (λK a=>?_) kp)
   .go_simp;refine a _ _ trivial (λ_=>?_);clear a K;refine kO (rs:=[6]) oA ot ?_;refine ke rfl (λK a=>?_) kp
    .go_simp;refine a _ _ trivial (λ_=>?_);clear a K;refine kO (rs:=[7]) oA ot ?_;refine ke rfl (λK a=>?_) kp;refine oJ C.heap.size A 0 none 0 0 L (.slice R A.length U) rfl (.tmp 41) (.tmp 44) rfl rfl rfl rfl j.nR j.grow.size od ?_;intro g D w3 y x;have p:=jh y;have n:=jh x;have⟨g0,g1,g2,g3⟩:=zt y;have l:g≠B:=by have:=j.out.lt;omega
     have v:=(x.block (qq.1 m).1 (aD j.nR m ov)).trans m;have d2:=(nL v).2.2.1;have E:=pM v;clear y x v;refine a _ _ trivial (λ_=>?_);clear a K;refine fG 8 46 ?_;refine fG 10 47 ?_;refine fG 11 48 ?_;refine kO (rs:=[9,12]) oA ot ?_;refine ke rfl (λK a=>?_) (ke rfl (λK a=>?_) kp)
     .go_simp;refine a _ _ trivial (λ_=>?_);clear a K;refine kO (rs:=[12]) oA ot ?_;refine ke rfl (λK a=>?_) kp;go_simp;refine a _ _ trivial (λ_=>?_);clear a K;refine qf4 oA ?_ _;go_wp2;go_ret
      first|exact dh (.inl rfl) j m z s q r u p n d|exact dh (.inr rfl) j m z s q r u p n d
     .go_simp;refine a _ _ trivial (λ_=>?_);clear a K;refine kO (rs:=[9]) oA ot ?_;refine ke rfl (λK a=>?_) kp;go_simp;refine a _ _ trivial (λ_=>?_);clear a K;refine qf4 oA ?_ _;go_wp2;go_ret
      first
      | (have h:=dh (.inl rfl) j m z s q r u p n d;rw[bu _ _ l,bu _ _ l]at h;exact h)
      | (have h:=dh (.inr rfl) j m z s q r u p n d;rw[bu _ _ l,bu _ _ l]at h;exact h)
   .go_simp;refine a _ _ trivial (λ_=>?_);clear a K;refine kO (rs:=[4]) oA ot ?_;refine ke rfl (λK a=>?_) kp
    .go_simp;refine a _ _ trivial (λ_=>?_);clear a K;refine kO (rs:=[7]) oA ot ?_;refine ke rfl (λK a=>?_) kp;refine oJ C.heap.size A 0 none 0 0 L (.slice R A.length U) rfl (.tmp 41) (.tmp 44) rfl rfl rfl rfl j.nR j.grow.size od ?_;intro g D w3 y x;have p:=jh y;have n:=jh x;have⟨g0,g1,g2,g3⟩:=zt y;have l:g≠B:=by have:=j.out.lt;omega
     have v:=(x.block (qq.1 m).1 (aD j.nR m ov)).trans m;have d2:=(nL v).2.2.1;have E:=pM v;clear y x v;refine a _ _ trivial (λ_=>?_);clear a K;refine fG 8 46 ?_;refine fG 10 47 ?_;refine fG 11 48 ?_;refine kO (rs:=[9,12]) oA ot ?_;refine ke rfl (λK a=>?_) (ke rfl (λK a=>?_) kp)
     .go_simp;refine a _ _ trivial (λ_=>?_);clear a K;refine kO (rs:=[12]) oA ot ?_;refine ke rfl (λK a=>?_) kp;go_simp;refine a _ _ trivial (λ_=>?_);clear a K;refine qf4 oA ?_ _;go_wp2;go_ret
      first|exact dh (.inl rfl) j m z s q r u p n d|exact dh (.inr rfl) j m z s q r u p n d
     .go_simp;refine a _ _ trivial (λ_=>?_);clear a K;refine kO (rs:=[9]) oA ot ?_;refine ke rfl (λK a=>?_) kp;go_simp;refine a _ _ trivial (λ_=>?_);clear a K;refine qf4 oA ?_ _;go_wp2;go_ret
      first
      | (have h:=dh (.inl rfl) j m z s q r u p n d;rw[bu _ _ l,bu _ _ l]at h;exact h)
      | (have h:=dh (.inr rfl) j m z s q r u p n d;rw[bu _ _ l,bu _ _ l]at h;exact h)
  .go_simp;refine a _ _ trivial (λ_=>?_);clear a K;refine kO (rs:=[3,6]) oA ot ?_;refine ke rfl (λK a=>?_) (ke rfl (λK a=>?_) kp)
   .go_simp;refine a _ _ trivial (λ_=>?_);clear a K;refine fG 5 43 ?_;refine kO (rs:=[6]) oA ot ?_;refine ke rfl (λK a=>?_) kp
    .go_simp;refine a _ _ trivial (λ_=>?_);clear a K;refine kO (rs:=[7]) oA ot ?_;refine ke rfl (λK a=>?_) kp;refine oJ C.heap.size A 0 none 0 0 L (.slice R A.length U) rfl (.tmp 41) (.tmp 44) rfl rfl rfl rfl j.nR j.grow.size od ?_;intro g D w3 y x;have p:=jh y;have n:=jh x;have⟨g0,g1,g2,g3⟩:=zt y;have l:g≠B:=by have:=j.out.lt;omega
     have v:=(x.block (qq.1 m).1 (aD j.nR m ov)).trans m;have d2:=(nL v).2.2.1;have E:=pM v;clear y x v;refine a _ _ trivial (λ_=>?_);clear a K;refine fG 8 46 ?_;refine fG 10 47 ?_;refine fG 11 48 ?_;refine kO (rs:=[9,12]) oA ot ?_;refine ke rfl (λK a=>?_) (ke rfl (λK a=>?_) kp)
     .go_simp;refine a _ _ trivial (λ_=>?_);clear a K;refine kO (rs:=[12]) oA ot ?_;refine ke rfl (λK a=>?_) kp;go_simp;refine a _ _ trivial (λ_=>?_);clear a K;refine qf4 oA ?_ _;go_wp2;go_ret
      first|exact dh (.inl rfl) j m z s q r u p n d|exact dh (.inr rfl) j m z s q r u p n d
     .go_simp;refine a _ _ trivial (λ_=>?_);clear a K;refine kO (rs:=[9]) oA ot ?_;refine ke rfl (λK a=>?_) kp;go_simp;refine a _ _ trivial (λ_=>?_);clear a K;refine qf4 oA ?_ _;go_wp2;go_ret
      first
      | (have h:=dh (.inl rfl) j m z s q r u p n d;rw[bu _ _ l,bu _ _ l]at h;exact h)
      | (have h:=dh (.inr rfl) j m z s q r u p n d;rw[bu _ _ l,bu _ _ l]at h;exact h)
   .go_simp;refine a _ _ trivial (λ_=>?_);clear a K;refine kO (rs:=[3]) oA ot ?_;refine ke rfl (λK a=>?_) kp
    .go_simp;refine a _ _ trivial (λ_=>?_);clear a K;refine fG 5 43 ?_;refine kO (rs:=[7]) oA ot ?_;refine ke rfl (λK a=>?_) kp;refine oJ C.heap.size A 0 none 0 0 L (.slice R A.length U) rfl (.tmp 41) (.tmp 44) rfl rfl rfl rfl j.nR j.grow.size od ?_;intro g D w3 y x;have p:=jh y;have n:=jh x;have⟨g0,g1,g2,g3⟩:=zt y;have l:g≠B:=by have:=j.out.lt;omega
     have v:=(x.block (qq.1 m).1 (aD j.nR m ov)).trans m;have d2:=(nL v).2.2.1;have E:=pM v;clear y x v;refine a _ _ trivial (λ_=>?_);clear a K;refine fG 8 46 ?_;refine fG 10 47 ?_;refine fG 11 48 ?_;refine kO (rs:=[9,12]) oA ot ?_;refine ke rfl (λK a=>?_) (ke rfl (λK a=>?_) kp)
     .go_simp;refine a _ _ trivial (λ_=>?_);clear a K;refine kO (rs:=[12]) oA ot ?_;refine ke rfl (λK a=>?_) kp;go_simp;refine a _ _ trivial (λ_=>?_);clear a K;refine qf4 oA ?_ _;go_wp2;go_ret
      first|exact dh (.inl rfl) j m z s q r u p n d|exact dh (.inr rfl) j m z s q r u p n d
     .go_simp;refine a _ _ trivial (λ_=>?_);clear a K;refine kO (rs:=[9]) oA ot ?_;refine ke rfl (λK a=>?_) kp;go_simp;refine a _ _ trivial (λ_=>?_);clear a K;refine qf4 oA ?_ _;go_wp2;go_ret
      first
      | (have h:=dh (.inl rfl) j m z s q r u p n d;rw[bu _ _ l,bu _ _ l]at h;exact h)
      | (have h:=dh (.inr rfl) j m z s q r u p n d;rw[bu _ _ l,bu _ _ l]at h;exact h)
  .go_simp;refine a _ _ trivial (λ_=>?_);clear a K;refine kO (rs:=[3,4]) oA ot ?_;refine ke rfl (λK a=>?_) (ke rfl (λK a=>?_) kp)
   .go_simp;refine a _ _ trivial (λ_=>?_);clear a K;refine fG 5 43 ?_;refine kO (rs:=[4]) oA ot ?_;refine ke rfl (λK a=>?_) kp
    .go_simp;refine a _ _ trivial (λ_=>?_);clear a K;refine kO (rs:=[7]) oA ot ?_;refine ke rfl (λK a=>?_) kp;refine oJ C.heap.size A 0 none 0 0 L (.slice R A.length U) rfl (.tmp 41) (.tmp 44) rfl rfl rfl rfl j.nR j.grow.size od ?_;intro g D w3 y x;have p:=jh y;have n:=jh x;have⟨g0,g1,g2,g3⟩:=zt y;have l:g≠B:=by have:=j.out.lt;omega
     have v:=(x.block (qq.1 m).1 (aD j.nR m ov)).trans m;have d2:=(nL v).2.2.1;have E:=pM v;clear y x v;refine a _ _ trivial (λ_=>?_);clear a K;refine fG 8 46 ?_;refine fG 10 47 ?_;refine fG 11 48 ?_;refine kO (rs:=[9,12]) oA ot ?_;refine ke rfl (λK a=>?_) (ke rfl (λK a=>?_) kp)
     .go_simp;refine a _ _ trivial (λ_=>?_);clear a K;refine kO (rs:=[12]) oA ot ?_;refine ke rfl (λK a=>?_) kp;go_simp;refine a _ _ trivial (λ_=>?_);clear a K;refine qf4 oA ?_ _;go_wp2;go_ret
      first|exact dh (.inl rfl) j m z s q r u p n d|exact dh (.inr rfl) j m z s q r u p n d
     .go_simp;refine a _ _ trivial (λ_=>?_);clear a K;refine kO (rs:=[9]) oA ot ?_;refine ke rfl (λK a=>?_) kp;go_simp;refine a _ _ trivial (λ_=>?_);clear a K;refine qf4 oA ?_ _;go_wp2;go_ret
      first
      | (have h:=dh (.inl rfl) j m z s q r u p n d;rw[bu _ _ l,bu _ _ l]at h;exact h)
      | (have h:=dh (.inr rfl) j m z s q r u p n d;rw[bu _ _ l,bu _ _ l]at h;exact h)
   .go_simp;refine a _ _ trivial (λ_=>?_);clear a K;refine kO (rs:=[3]) oA ot ?_;refine ke rfl (λK a=>?_) kp
    .go_simp;refine a _ _ trivial (λ_=>?_);clear a K;refine fG 5 43 ?_;refine kO (rs:=[7]) oA ot ?_;refine ke rfl (λK a=>?_) kp;refine oJ C.heap.size A 0 none 0 0 L (.slice R A.length U) rfl (.tmp 41) (.tmp 44) rfl rfl rfl rfl j.nR j.grow.size od ?_;intro g D w3 y x;have p:=jh y;have n:=jh x;have⟨g0,g1,g2,g3⟩:=zt y;have l:g≠B:=by have:=j.out.lt;omega
     have v:=(x.block (qq.1 m).1 (aD j.nR m ov)).trans m;have d2:=(nL v).2.2.1;have E:=pM v;clear y x v;refine a _ _ trivial (λ_=>?_);clear a K;refine fG 8 46 ?_;refine fG 10 47 ?_;refine fG 11 48 ?_;refine kO (rs:=[9,12]) oA ot ?_;refine ke rfl (λK a=>?_) (ke rfl (λK a=>?_) kp)
     .go_simp;refine a _ _ trivial (λ_=>?_);clear a K;refine kO (rs:=[12]) oA ot ?_;refine ke rfl (λK a=>?_) kp;go_simp;refine a _ _ trivial (λ_=>?_);clear a K;refine qf4 oA ?_ _;go_wp2;go_ret
      first|exact dh (.inl rfl) j m z s q r u p n d|exact dh (.inr rfl) j m z s q r u p n d
     .go_simp;refine a _ _ trivial (λ_=>?_);clear a K;refine kO (rs:=[9]) oA ot ?_;refine ke rfl (λK a=>?_) kp;go_simp;refine a _ _ trivial (λ_=>?_);clear a K;refine qf4 oA ?_ _;go_wp2;go_ret
      first
      | (have h:=dh (.inl rfl) j m z s q r u p n d;rw[bu _ _ l,bu _ _ l]at h;exact h)
      | (have h:=dh (.inr rfl) j m z s q r u p n d;rw[bu _ _ l,bu _ _ l]at h;exact h)
def R6{I W:bx}{z:Nat}{i:Ins}{t:Tr}{nv:cg}{f:UInt8}{c:Int}(hf:f=99/\c=99\/f=100/\c=100)(hI:nA K I W z i)(U:bI (λb=>K b/\b+1<z) I t nv)(ah:i.types.length<=1000)(ad:i.rows.length<=1000) :
 Calls prog 101 #[.po z,.int .u8 c,nv] W (lG K I z i f t):=by
 have⟨tv,rv,vs,m,da,dc,X,V,Z⟩:=hI;have⟨A,B,VN,R,⟨ik,iN,ip,ae⟩,y⟩:=U.yX;have L:=And.intro y (U.Y5 R);clear y;rw[R];unfold af;have E:=aK (w:=W) (.cells #[.i t.k0,.i t.n0,.i t.p0,.string t.s0,.slice A t.args0.length B] 26);have C:=jj W (.cells #[.i t.k0,.i t.n0,.i t.p0,.string t.s0,.slice A t.args0.length B] 26);have M:=l5 X E;have v:=V.call E;have⟨m0,m1,m2,m3,m4⟩:=bE C;have x:(W.alloc (.cells #[.i t.k0,.i t.n0,.i t.p0,.string t.s0,.slice A t.args0.length B] 26)).grownBy (W.alloc (.cells #[.i t.k0,.i t.n0,.i t.p0,.string t.s0,.slice A t.args0.length B] 26)).drew none:=fK (bM _ _);have D:=l5 C x;have⟨y0,y1,y2,y3,y4⟩:=bE D;have r:=jh D;obtain⟨O,P,rfl,_⟩:=vB v.sD;have ai:m.length<=1000:=by have:=v.CS;omega
 have⟨H,h,d,s⟩:=JT Z (v.call x) (l5 M x) L;have G:some W.heap.size≠(Value.slice O m.length P).ownBlock:=λe=>by have:=(zp V.sD W.heap.size e.symm).2;omega
 have F:W.heap.size≠z:=by have:=(qq.1 X).1;omega
 have⟨c0,c1,c2,c3,_⟩:=nL d;have ab:True:=trivial;clear E C v M V Z X U L R x D;rcases hf with⟨rfl,rfl⟩|⟨rfl,rfl⟩
 all_goals
  go_enter func101,ntmps101;go_wp2_with fail;refine ja7 (S:=λ_=>True) oA ?_ (λT=>?_)
  .trivial
  generalize (W.alloc _).drew=Q at *;have aa:=JJ (aK (w:=Q) (.cells #[.slice A t.args0.length B] 24)) c3;refine fG 0 54 ?_;refine fG 1 55 ?_;refine fG 2 56 ?_;refine fG 3 57 ?_;refine fG 5 59 ?_;refine kO (rs:=[4,6]) oA ot ?_;refine ke rfl (λK a=>?_) (ke rfl (λK a=>?_) kp)
  .go_simp;refine a _ _ trivial (λ_=>?_);clear a K;refine kO (rs:=[6]) oA ot ?_;refine ke rfl (λK a=>?_) kp;go_simp;refine a _ _ trivial (λ_=>?_);clear a K;refine kO (rs:=[7]) oA ot ?_;refine ke rfl (λK a=>?_) kp;go_simp;refine a _ _ trivial (λ_=>?_);clear a K;refine kO (rs:=[8]) oA ot ?_;refine ke rfl (λK a=>?_) kp;refine zA I.heap.size m A t.args0.length B Q (.slice O m.length P) rfl (.tmp 58) (.tmp 61) rfl rfl rfl rfl h.sD h.grow.size od ?_;intro g u N q j;have o:=jh q;have n:=jh j;have l:=(j.block (qq.1 d).1 (aD h.sD d ov)).trans d;have Y:=(nL l).2.2.2.1;have J:=pM l;have k:=(j.block (qq.1 r).1 G).trans r;have p:=((dY (bM N (some z)) 3 none (.o g (m.length+1) u)).block _ (qq.1 k).1 (by simpa using F)).trans k;have⟨q0,_⟩:=bE k;have⟨r0,_⟩:=bE p;clear q j l k p;refine a _ _ trivial (λ_=>?_);clear a K;refine fG 9 63 ?_;refine fG 10 64 ?_;refine kO (rs:=[11]) oA ot ?_;refine ke rfl (λK a=>?_) kp;go_simp;refine a _ _ trivial (λ_=>?_);clear a K;refine qf4 oA ?_ _;go_wp2;go_ret
   first|exact oh (.inl rfl) h d H s o n|exact oh (.inr rfl) h d H s o n
  .go_simp;refine a _ _ trivial (λ_=>?_);clear a K;refine kO (rs:=[4,7]) oA ot ?_;refine ke rfl (λK a=>?_) (ke rfl (λK a=>?_) kp)
   .go_simp;refine a _ _ trivial (λ_=>?_);clear a K;refine kO (rs:=[7]) oA ot ?_;refine ke rfl (λK a=>?_) kp;go_simp;refine a _ _ trivial (λ_=>?_);clear a K;refine kO (rs:=[8]) oA ot ?_;refine ke rfl (λK a=>?_) kp;refine zA I.heap.size m A t.args0.length B Q (.slice O m.length P) rfl (.tmp 58) (.tmp 61) rfl rfl rfl rfl h.sD h.grow.size od ?_;intro g u N q j;have o:=jh q;have n:=jh j;have l:=(j.block (qq.1 d).1 (aD h.sD d ov)).trans d;have Y:=(nL l).2.2.2.1;have J:=pM l;have k:=(j.block (qq.1 r).1 G).trans r;have p:=((dY (bM N (some z)) 3 none (.o g (m.length+1) u)).block _ (qq.1 k).1 (by simpa using F)).trans k;have⟨q0,_⟩:=bE k;have⟨r0,_⟩:=bE p;clear q j l k p;refine a _ _ trivial (λ_=>?_);clear a K;refine fG 9 63 ?_;refine fG 10 64 ?_;refine kO (rs:=[11]) oA ot ?_;refine ke rfl (λK a=>?_) kp;go_simp;refine a _ _ trivial (λ_=>?_);clear a K;refine qf4 oA ?_ _;go_wp2;go_ret
    first|exact oh (.inl rfl) h d H s o n|exact oh (.inr rfl) h d H s o n
   .go_simp;refine a _ _ trivial (λ_=>?_);clear a K;refine kO (rs:=[4]) oA ot ?_;refine ke rfl (λK a=>?_) kp;go_simp;refine a _ _ trivial (λ_=>?_);clear a K;refine kO (rs:=[8]) oA ot ?_;refine ke rfl (λK a=>?_) kp;refine zA I.heap.size m A t.args0.length B Q (.slice O m.length P) rfl (.tmp 58) (.tmp 61) rfl rfl rfl rfl h.sD h.grow.size od ?_;intro g u N q j;have o:=jh q;have n:=jh j;have l:=(j.block (qq.1 d).1 (aD h.sD d ov)).trans d;have Y:=(nL l).2.2.2.1;have J:=pM l;have k:=(j.block (qq.1 r).1 G).trans r;have p:=((dY (bM N (some z)) 3 none (.o g (m.length+1) u)).block _ (qq.1 k).1 (by simpa using F)).trans k;have⟨q0,_⟩:=bE k;have⟨r0,_⟩:=bE p;clear q j l k p;refine a _ _ trivial (λ_=>?_);clear a K;refine fG 9 63 ?_;refine fG 10 64 ?_;refine kO (rs:=[11]) oA ot ?_;refine ke rfl (λK a=>?_) kp;go_simp;refine a _ _ trivial (λ_=>?_);clear a K;refine qf4 oA ?_ _;go_wp2;go_ret
    first|exact oh (.inl rfl) h d H s o n|exact oh (.inr rfl) h d H s o n
def XQ{n W:bx}{g:Nat}{i:Ins}{t:Tr}{z:cg}{f:UInt8}{c:Int}(p:f≠110/\¬(f=116\/f=117)/\¬(f=99\/f=100))(D:nA K n W g i)(o:bI (λb=>K b/\b+1<g) n t z)(hc:c≠110/\c≠116/\c≠117/\c≠99/\c≠100)(G:i.types.length<=1000)(E:i.rows.length<=1000) :
 Calls prog 101 #[.po g,.int .u8 c,z] W (lG K n g i f t):=by
 have⟨tv,H,I,u,U,V,x,v,C⟩:=D;have⟨h,j,J,r,⟨Y,X,Z,F⟩,s⟩:=o.yX;rw[r];unfold af;have e:=aK (w:=W) (.cells #[.i t.k0,.i t.n0,.i t.p0,.string t.s0,.slice h t.args0.length j] 26);have l:=jj W (.cells #[.i t.k0,.i t.n0,.i t.p0,.string t.s0,.slice h t.args0.length j] 26);have a:=l5 x e;have k:=v.call e;have⟨m0,m1,m2,m3,m4⟩:=bE l;have y:=XH a (.i t.k0) (.i t.n0) (.i t.p0) (.string t.s0) (.slice h t.args0.length j);have m:=dY (dY (dY (dY (dY (bM (W.alloc (.cells #[.i t.k0,.i t.n0,.i t.p0,.string t.s0,.slice h t.args0.length j] 26)) (some g)) 4 none (.i t.k0)) 5 none (.i t.n0)) 6 none (.i t.p0)) 7 none (.string t.s0)) 8 none (.slice h t.args0.length j);have d:=k.step m;rw[r]at o;have A:Hid (nA K n _ g { i with data:=t }):=⟨tv,H,I,u,h,j,y,d,o⟩;have q:=jh d.grow;have fr:=pM a;have⟨L,M,N,O,P,Q,R,S,T⟩:=nL a;have B:Hid (iy i f t=some { i with data:=t }):=by show _=_;unfold iy;rw[if_neg p.1,if_neg p.2.1,if_neg p.2.2]
 have p1:(c==110)=false:=vy
 have p2:(c==116)=false:=vy
 have p3:(c==117)=false:=vy
 have p4:(c==99)=false:=vy
 have p5:(c==100)=false:=vy
 clear d m y k a e l v C x o s r p hc;go_enter func101,ntmps101;go_wp2;go_ret;exact yC B q A
variable {K:br}
def pK(p:Int)(W:bx):Calls prog 100 #[.i p] W λe w'=>e =.returned (.string ⟨(bR p).toArray⟩)/\w'=W:=by
 by_cases a:p=41
 .subst a;go_enter func100,ntmps100;go_wp2;go_ret;exact⟨rfl,rfl⟩
 by_cases b:p=43
 .subst b;go_enter func100,ntmps100;go_wp2;go_ret;exact⟨rfl,rfl⟩
 by_cases c:p=44
 .subst c;go_enter func100,ntmps100;go_wp2;go_ret;exact⟨rfl,rfl⟩
 by_cases d:p=45
 .subst d;go_enter func100,ntmps100;go_wp2;go_ret;exact⟨rfl,rfl⟩
 by_cases f:p=50
 .subst f;go_enter func100,ntmps100;go_wp2;go_ret;exact⟨rfl,rfl⟩
 by_cases g:p=51
 .subst g;go_enter func100,ntmps100;go_wp2;go_ret;exact⟨rfl,rfl⟩
 by_cases j:p=54
 .subst j;go_enter func100,ntmps100;go_wp2;go_ret;exact⟨rfl,rfl⟩
 by_cases l:p=56
 .subst l;go_enter func100,ntmps100;go_wp2;go_ret;exact⟨rfl,rfl⟩
 by_cases u:p=82
 .subst u;go_enter func100,ntmps100;go_wp2;go_ret;exact⟨rfl,rfl⟩
 by_cases v:p=88
 .subst v;go_enter func100,ntmps100;go_wp2;go_ret;exact⟨rfl,rfl⟩
 by_cases o:p=61
 .subst o;go_enter func100,ntmps100;go_wp2;go_ret;exact⟨rfl,rfl⟩
 by_cases h:p=52
 .subst h;go_enter func100,ntmps100;go_wp2;go_ret;exact⟨rfl,rfl⟩
 by_cases k:p=55
 .subst k;go_enter func100,ntmps100;go_wp2;go_ret;exact⟨rfl,rfl⟩
 by_cases m:p=58
 .subst m;go_enter func100,ntmps100;go_wp2;go_ret;exact⟨rfl,rfl⟩
 by_cases q:p=64
 .subst q;go_enter func100,ntmps100;go_wp2;go_ret;exact⟨rfl,rfl⟩
 by_cases n:p=60
 .subst n;go_enter func100,ntmps100;go_wp2;go_ret;exact⟨rfl,rfl⟩
 by_cases r:p=65
 .subst r;go_enter func100,ntmps100;go_wp2;go_ret;exact⟨rfl,rfl⟩
 by_cases t:p=68
 .subst t;go_enter func100,ntmps100;go_wp2;go_ret;exact⟨rfl,rfl⟩
 by_cases s:p=66
 .subst s;go_enter func100,ntmps100;go_wp2;go_ret;exact⟨rfl,rfl⟩
 have w:bR p=[]:=by simp[bR,a,b,c,d,f,g,j,l,u,v,o,h,k,m,q,n,r,t,s]
 have y:(p==41)=false:=by simpa using a
 have z:(p==43)=false:=by simpa using b
 have A:(p==44)=false:=by simpa using c
 have B:(p==45)=false:=by simpa using d
 have C:(p==50)=false:=by simpa using f
 have D:(p==51)=false:=by simpa using g
 have F:(p==54)=false:=by simpa using j
 have H:(p==56)=false:=by simpa using l
 have P:(p==82)=false:=by simpa using u
 have Q:(p==88)=false:=by simpa using v
 have K:(p==61)=false:=by simpa using o
 have E:(p==52)=false:=by simpa using h
 have G:(p==55)=false:=by simpa using k
 have I:(p==58)=false:=by simpa using m
 have L:(p==64)=false:=by simpa using q
 have J:(p==60)=false:=by simpa using n
 have M:(p==65)=false:=by simpa using r
 have O:(p==68)=false:=by simpa using t
 have N:(p==66)=false:=by simpa using s
 have x:=jh w;clear w;go_enter func100,ntmps100;go_wp2;go_ret;exact⟨by rw[x.out];rfl,rfl⟩
