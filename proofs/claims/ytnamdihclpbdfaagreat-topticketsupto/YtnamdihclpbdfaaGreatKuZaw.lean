import Derived.Test.YtnamdihclpbdfaaGreatKuZav
namespace Go.Proofs.YtnamdihclpbdfaaGreat
set_option linter.all false
open Go.Proofs.Tryz
open Go.RowKit
def vsums_mem:∀{l:ao}{x:Va},x∈l->vsum x<=vsums l
 | y::l,x,h=>by
  simp only[vsums];rcases kl.1 h with rfl|h
  .omega
  .have:=vsums_mem h;omega
def uT{x v:Va}(h:x∈v.args):vsum x<=vsum v:=by have a:=vsums_mem h;have b:=VD v;omega
@[reducible] def nrI (init:Va) (hk:init.k=11):Nr where
 q v:=vsum v<=200\/v=init
 ax v h hv x hx:=by
  rcases h with h|h
  .have:=uT hx;left;omega
  .rw[h]at hv;exact absurd hk hv
 sm T v hf hz hb:=by left;have⟨h1,h2⟩:=fit_size v T hf;unfold yN at hb;simp only[qe1]at hb;unfold wrap64 at hb;omega
structure acR (aC:Int) (S:Ty) (r:Rs):Prop where
 aC:0<=r.aC/\(r.aC=0\/r.aC<=aC)
 code:r.code=0\/r.code=10\/r.code=11\/r.code=12\/r.code=13
 ok:r.code=0->ED r.aO/\∃k n q z lo s ty cd,r.stack=[.mk k n q z [lo,s] ty cd]/\Fit S s/\vsum s<=200/\Fit (.nd 10 [.nd 8 []]) lo/\∀v∈lo.args,vsum v<=200
def XM{T E:Ty}(h:storeT T)(d:T.t=10)(c:T.args=[E]):E.t≠8:=by have⟨t,a⟩:=T;obtain rfl:t=10:=d;obtain rfl:a=[E]:=c;have⟨u,b⟩:=E;simp only[storeT,sW,ow,Ap,Kz,qt,qe2,jt]at h;have:=h.2;simp at this;exact this.1
def GN{A:Ac}(h:kP A):(tT A.par/\tT A.oh)/\Fit A.oh A.val/\∃f ts,codeF (lD A) [.nd 11 [A.par,A.oh]] =.ok f ts/\(f=false->ts=[Wl A.oh]):=by
 unfold kP at h;rw[qt,qt,jt]at h;have⟨⟨a,g⟩,_⟩:=h;unfold DR at a;split at a
 .rename_i d;rw[qt]at d;refine⟨d,g,?_⟩;split at a
  .rename_i e c;exact absurd a (EO c)
  .rename_i f ts c;split at a
   .rename_i b;refine⟨f,ts,c,λi=>?_⟩;subst i;unfold rU at b;rw[jd3]at b;split at b
    .rw[sameT_eq _ _ b]
    .cases b
   .cases a
 .cases a
def KQ{i:Nat}{A:Ac}{en:En}{x:Va}{aC:Int}(w:GA i A)(V:A.is=2)(d:Ah en)(M:Fit A.par x)(hz:x.size<=120000):acR aC A.oh (Fy en (lD A) [.nd 11 [A.par,A.oh]] [aY x A.val] aC):=by
 have L:=w.whole;unfold iR at L;rw[oa,oa,if_pos V,qt]at L;have⟨⟨O,ks⟩,p,f,ts,b,J⟩:=GN L.2;have hg:ai (.nd 11 [A.par,A.oh]):=by
  unfold codeF at b;split at b
  .cases b
  split at b
  .cases b
  split at b
  .cases b
  split at b
  .rename_i h;simpa using h
  .cases b
 have hF:FitS [.nd 11 [A.par,A.oh]] [aY x A.val]:=⟨qB hg M p,trivial⟩;have aa:=w.ok.zv;have I:(aY x A.val).size<=6000000:=by simp only[aY,mkV,Va.size,vsizes,tysizes,sizes];omega
 have hk:(aY x A.val).k=11:=rfl
 letI:=nrI (aY x A.val) hk
 have hS:Sq [aY x A.val]:=λv p=>by rw[qv]at p;subst p;exact⟨I,.inr rfl⟩
 have⟨N,g⟩:=Cg (aC:=aC) (z:=[Wl A.oh]) (CU d) b (λh=>(J h).symm) oe hF hS;have hr:Fy en (lD A) [.nd 11 [A.par,A.oh]] [aY x A.val] aC=rsO (fq en aC N (jO [aY x A.val] (lD A).args0)):=by unfold Fy;rw[if_pos ⟨d,zb.2 ⟨⟨f,ts,b⟩,hF⟩⟩,xA (uW g)]
 rw[hr];generalize fq en aC N (jO [aY x A.val] (lD A).args0)=o at g
 cases o with
 | stuck=>exact g.elim
 | no e m =>
  have⟨hp,a⟩:=g;refine⟨hp,?_,λh=>?_⟩
  .show e=0\/_;rcases a with a|a|a|a
   .exact .inr (.inl a.1)
   .exact .inr (.inr (.inl a))
   .exact .inr (.inr (.inr (.inl a.1)))
   .exact .inr (.inr (.inr (.inr a)))
  .have h:e=0:=h;rcases a with a|a|a|a<;>omega
 | go m =>
  have⟨y,D,F,G,H,_⟩:=g;refine⟨⟨F,G⟩,.inl rfl,λ_=>⟨D,?_⟩⟩;have⟨v,l,Q,X,hl⟩:=av y;have B:l=[]:=by have:=fitS_len hl;simpa using this.symm
  subst B;have⟨P,S,j,s,R,T,r,Y⟩:=uX X rfl;simp only[Wl,Ty.args,qa5,and_true]at R;obtain⟨rfl,rfl⟩:=R;have⟨E,U,_,Z⟩:=xG r rfl;simp only[Ty.args,qa5,and_true]at U;subst U;have c:=(H v (by rw[Q];simp)).2;have⟨k,n,q,z,az,ty,cd⟩:=v;simp only[Va.args]at T;subst T;refine⟨k,n,q,z,j,s,ty,cd,Q,Y,?_,r,λu K=>?_⟩
  .rcases c with c|c
   .have:=uT (x:=s) (v:=.mk k n q z [j,s] ty cd) (by simp[Va.args]);omega
   .have : s=A.val:=by
     have h:=congrArg Va.args c;simp only[Va.args,aY,mkV,qa5,and_true]at h;exact h.2
    rw[this];exact w.sm V
  .rcases c with c|c
   .have h5:=uT (x:=j) (v:=.mk k n q z [j,s] ty cd) (by simp[Va.args]);have h6:=uT K;omega
   .have C:j=x:=by
     have h:=congrArg Va.args c;simp only[Va.args,aY,mkV,qa5,and_true]at h;exact h.1
    subst C;have W:A.par.t=10:=by rw[<-pM M,pM r];rfl
    have⟨E,g1,_,g3⟩:=xG M W;have h8:E.t=8:=by rw[<-pM (g3 u K),pM (Z u K)];rfl
    unfold tT at O;rw[qt]at O;exact absurd h8 (XM O.2 W g1)
structure WI (W:Wk):Prop where
 gl:GL W.L W.fe
 aC:W.aC<=50000
 paid:0<=W.paid/\W.paid<=W.aC
 Ze:ED W.Ze
def RQ:Rq->Prop
 | .op _ o=>Ch o
 | .told _ v=>Fit (.nd 8 []) v/\vsum v<=200
def XK{v:Va}(h:Fit (.nd 8 []) v):∃A y,v.types=[A]/\v.args=[y]/\Fit A y:=by
 have⟨_,c,⟨k,a,f⟩,_⟩:=iO h;unfold eX at c;simp only[qt]at c;have b:=c.1.2;unfold eZ at b;rw[if_pos (show (Ty.nd 8 []).t=8 from rfl)]at b;unfold bS at a;rw[if_pos (show (Ty.nd 8 []).t=8 from rfl)]at a;split at a
 .rename_i j;simp only[qq]at a;subst a;unfold oneGood at b;split at b
  .cases b
  .rename_i A e;rw[e]at f j|-;have⟨y,l,g,i,d⟩:=av f;have : l=[]:=by have:=fitS_len d;simpa using this.symm
   subst this;exact⟨A,y,rfl,g,i⟩
  .cases b
 .cases a
def Hg{T:Ty}{v:Va}(h:Fit T v)(b:vsum v<=200):v.size<=120000:=by have⟨a,_⟩:=fit_size v T h;omega
structure yT (W:Wk) (z:Wk×List Rq×Int):Prop where
 wi:WI z.1
 same:z.1.src=W.src/\z.1.aC=W.aC/\z.1.done=W.done/\z.1.fe=W.fe
 paid:W.paid<=z.1.paid
 made:z.1.made.length<=W.made.length+1
 new:z.2.2≠0->z.2.1=[]
 rq:∀r∈z.2.1,RQ r
 few:z.2.1.length<=24
 code:z.2.2≠14
def Y5{e:Int}(h:e=0\/e=10\/e=11\/e=12\/e=13):e≠14:=od
def yT.err{W a:Wk}{e:Int}(h:WI a)(f:a.src=W.src/\a.aC=W.aC/\a.done=W.done/\a.fe=W.fe)(c:W.paid<=a.paid)(hm:a.made.length<=W.made.length+1)(b:e≠14):yT W (a,[],e) :=
 ⟨h,f,c,hm,λ_=>rfl,λr d=>(by cases d),yv _,b⟩
def GA.oh{i:Nat}{A:Ac}(h:GA i A)(f:A.is=2){s:Va}(d:Fit A.oh s)(g:vsum s<=200):GA i { A with k:=s.k,n:=s.n,a:=s.a,s:=s.s,az:=s.args,ty:=s.types,cd:=s.code }:=by have b:({ A with k:=s.k,n:=s.n,a:=s.a,s:=s.s,az:=s.args,ty:=s.types,cd:=s.code } : Ac).val=s:=(Va.eta s).symm;have j:=Hg d g;refine⟨h.per,?_,⟨h.ok.par,h.ok.oh,h.ok.co,by rw[b];exact fit_ok _ (jj _) d,h.ok.zp,h.ok.zs,h.ok.zc,by rw[b];omega⟩,λ_=>by rw[b];exact g⟩;have c:=h.whole;unfold iR at c|-;rw[oa,oa,if_pos f,qt]at c;rw[if_neg (by show ¬A.is=0;omega),if_neg (by show ¬A.is=1;omega),if_pos f,qt];refine⟨c.1,?_⟩;have e:=c.2;unfold kP at e|-;rw[b];rw[qt,qt]at e|-;refine⟨⟨e.1.1,d⟩,xb ?_⟩;unfold wrap64;omega
def GL.oh{L:Lg}{f:Int}{i:Nat}{s:Va}(h:GL L f)(hi:i<12)(b:(L i).is=2)(c:Fit (L i).oh s)(d:vsum s<=200):GL (NY L i s) f:=by
 refine⟨λk a=>?_,h.EX.of λk a=>?_⟩
 .unfold NY;split
  .rename_i e;subst e;exact (h.ac k a).oh b c d
  .exact h.ac k a
 .unfold NY;split
  .rename_i e;subst e;rfl
  .rfl
def aal{a b:Int}(h:(addN a b).2=0):ED (addN a b).1\/¬(0<=a/\0<=b):=by
 by_cases d:0<=a/\0<=b
 .left;unfold addN kF at h|-;split at h
  .split at h
   .rename_i e c;rw[if_pos e,if_pos c];simp[kE]at c;exact⟨Kf,c.2⟩
   .cases h
  .cases h
 .exact .inr d
def V6{a b:Int} : (addN a b).2≠14:=by
 unfold addN kF;split
 .split<;>(dsimp only;decide)
 .dsimp only;decide
def OH{W:Wk}{i:Nat}{en:En}{x:Va}(hW:WI W)(hi:i<12)(e:(W.L i).is=2)(a:Ah en)(C:Fit (W.L i).par x)(D:x.size<=120000):yT W (pK W i en x):=by
 have f:=KQ (aC:=W.aC - W.paid) (hW.gl.ac i hi) e a C D;unfold pK;generalize Fy en (lD (W.L i)) [.nd 11 [(W.L i).par,(W.L i).oh]] [aY x (W.L i).val] (W.aC - W.paid)=r at f;have⟨F,w,c⟩:=f;have G:=hW.paid;have d:0<=W.paid+r.aC/\W.paid+r.aC<=W.aC:=od
 unfold Kk;split
 .rename_i h0;have⟨y,k,n,q,z,E,s,ty,cd,j,l,m,o,p⟩:=c h0;split
  .rename_i u;rw[j];dsimp only;have b:ED (addN W.Ze r.aO).1:=by
    rcases aal u with h|h
    .exact h
    .exact absurd ⟨hW.Ze.1,y.1⟩ h
   have⟨A,g1,g2,t⟩:=xG o rfl;simp only[Ty.args,qa5,and_true]at g1;subst g1;refine⟨⟨hW.gl.oh hi e l m,hW.aC,d,b⟩,⟨rfl,rfl,rfl,rfl⟩,by show W.paid<=W.paid+r.aC;omega,by show W.made.length<=_;omega,λh=>absurd rfl h,λr B=>?_,by show (E.args.map _).length<=24;rw[qc3];exact g2,show (0:Int)≠14 by decide⟩;obtain⟨v,g,rfl⟩:=kB.1 B;exact⟨t v g,p v g⟩
  .exact .err ⟨hW.gl,hW.aC,d,hW.Ze⟩ ⟨rfl,rfl,rfl,rfl⟩ (by show W.paid<=W.paid+r.aC;omega) (by show W.made.length<=_;omega) V6
 .exact .err ⟨hW.gl,hW.aC,d,hW.Ze⟩ ⟨rfl,rfl,rfl,rfl⟩ (by show W.paid<=W.paid+r.aC;omega) (by show W.made.length<=_;omega) (Y5 w)
def Gh{L:Lg}{fr dn n:Int}(h:(moveF L fr dn n).2=0):(0<=fr/\fr<12)/\(0<=dn/\dn<12)/\(0<=n/\n<=1152921504606846976)/\(L dn.toNat).is≠0/\(moveF L fr dn n).1=mV L fr.toNat dn.toNat n:=by
 unfold moveF at h|-;split at h
 .rename_i a;split at h
  .rename_i b;split at h
   .cases h
   .rename_i c;rw[if_pos a,if_pos b,if_neg c];rw[qt]at a;simp only[rf,jt]at b;exact⟨u6 a.1,u6 a.2,b,Ik a.2,rfl⟩
  .cases h
 .cases h
def Gd{L:Lg}{fr dn n:Int} : (moveF L fr dn n).2≠14:=by
 unfold moveF
 repeat' split
 all_goals (dsimp only;decide)
def Qa{L:Lg}{i j:Nat}{n:Int}(k:Nat):(mV L i j n k).is=(L k).is:=by
 unfold mV gY;dsimp only
 repeat' split
 all_goals first|rfl|(rename_i e;subst e;rfl)|(rename_i e a;subst e;subst a;rfl)
def OA{W:Wk}{r:Rq}{i:Nat}{x:Va}(g:RQ r)(h:argF r (W.L i).par=some x):Fit (W.L i).par x/\x.size<=120000:=by
 cases r with
 | op f o =>
  have⟨a,e⟩:=Gq h;exact⟨a,od⟩
 | told f v =>
  have⟨a,e⟩:=g;have⟨A,y,d,b,c⟩:=XK a;simp only[argF,d,b]at h;rw[show aJ [A] 0=A from rfl]at h;split at h
  .rename_i j;simp only[qq,List.headD_cons]at h;subst h;rw[<-sameT_eq _ _ j];have:=uT (x:=y) (v:=v) (by rw[b];simp);exact⟨c,Hg c od⟩
  .cases h
def Rj{W:Wk}{r:Rq}(hW:WI W)(o:RQ r):yT W (mW W r):=by
 unfold mW;have b:=hW.gl.move (fr:=r.fr) (dn:=r.dst) (n:=r.lG);split
 .rename_i h0;have⟨q,s,t,e,f⟩:=Gh h0;have a:WI { W with L:=(moveF W.L r.fr r.dst r.lG).1 }:=⟨b,hW.aC,hW.paid,hW.Ze⟩;have c:r.dst.toNat<12:=by omega
  have l:((moveF W.L r.fr r.dst r.lG).1 r.dst.toNat).is≠0:=by rw[f,Qa];exact e
  generalize (moveF W.L r.fr r.dst r.lG).1=L2 at b a l;unfold Cr
  cases d:argF r (qO (L2 r.dst.toNat))with
  | none=>exact .err a ⟨rfl,rfl,rfl,rfl⟩ (qf0 _) (ka5 _) ot
  | some x =>
   dsimp only;split
   .exact .err a ⟨rfl,rfl,rfl,rfl⟩ (qf0 _) (ka5 _) ot
   .rename_i j;have m:=b.ac _ c;have k:(L2 r.dst.toNat).is=2:=by rcases Eh m.whole with h|h|h<;>omega
    have p:qO (L2 r.dst.toNat)=(L2 r.dst.toNat).par:=by unfold qO;rw[if_neg j];rfl
    rw[p]at d;have⟨g,i⟩:=OA (W:={ W with L:=L2 }) o d;have u:=b.EX.shares _ c;have h:=OH (W:={ W with L:=L2 }) (en:=⟨r.dst.toNat,r.fr,r.lG,(L2 r.dst.toNat).ji⟩) a c k ZD g i;exact⟨h.wi,h.same,h.paid,h.made,h.new,h.rq,h.few,h.code⟩
 .exact .err hW ⟨rfl,rfl,rfl,rfl⟩ (qf0 _) (ka5 _) Gd
def Xh{n:Tr}{s ts:aw}{f:Bool}(h:codeF n s =.ok f ts):n =.nd 3 0 0 ⟨#[]⟩ n.args0:=by
 unfold codeF at h;split at h
 .cases h
 rename_i g;split at h
 .cases h
 rename_i e;have c:=(iV (by simpa using g)).1;have⟨k,n,p,s,a⟩:=n;simp only[Tr.k0,ne_eq,Decidable.not_not]at e;subst e;simp only[bC]at c;split at c
 .cases c
 .split at c
  .rename_i h;exact absurd c h
  .rename_i b;simp only[ne_eq,Decidable.not_not]at b;unfold Lf.fD at b;split at b
   .cases b
   split at b
   .cases b
   split at b
   .cases b
   rename_i d;unfold Lf.qM at d;simp at d;obtain⟨rfl,rfl,i⟩:=d;rw[i];rfl
def Xm{o:lI}{A:Ac}{i:Nat}(u:Ch o)(h:ku o =.ok A)(hi:4<=i):GA i A/\A.is=2/\A.ji=0:=by
 unfold ku at h;split at h
 .split at h
  .split at h
   .rename_i C D a;split at h
    .rename_i x w;split at h
     .cases h
     .rename_i b;simp only[jf4]at h;subst h;have q:=a;unfold DR at a;split at a
      .rename_i m;rw[qt]at m;split at a
       .rename_i e l;exact absurd a (EO l)
       .rename_i f E l;have n:=Xh l;have⟨k,y⟩:=Gq w;have r:ai (kreadT o.p):=by have:=m.1;unfold tT at this;rw[qt]at this;exact this.1
        have t:ai (kreadT o.s):=by have:=m.2;unfold tT at this;rw[qt]at this;exact this.1
        have F:=(dE r).2.1;have G:=(dE t).2.1;have g:(acN (kreadT o.p) (kreadT o.s) o.code.args0 x).par=kreadT o.p:=by cases kreadT o.p;rfl
        have j:(acN (kreadT o.p) (kreadT o.s) o.code.args0 x).oh=kreadT o.s:=by cases kreadT o.s;rfl
        have d:(acN (kreadT o.p) (kreadT o.s) o.code.args0 x).val=x:=(Va.eta x).symm;have ec:lD (acN (kreadT o.p) (kreadT o.s) o.code.args0 x)=o.code:=n.symm;have v:vsum x<=200:=by
         have⟨z,B⟩:=fit_size x _ k;have b:yN x=false:=by simpa using b
         unfold yN at b;simp only[qe1]at b;unfold wrap64 at b;omega
        refine⟨⟨⟨λh=>absurd (show (2:Int)=1 from h) ot,λh=>absurd h od⟩,?_,⟨by rw[g];exact oM r,by rw[j];exact oM t,?_,by rw[d];exact fit_ok _ (jj _) k,by rw[g];omega,by rw[j];omega,?_,by rw[d];omega⟩,λ_=>by rw[d];exact v⟩,rfl,rfl⟩
        .unfold iR;rw[if_neg (by show ¬(2:Int)=0;decide),if_neg (by show ¬(2:Int)=1;decide),if_pos (by rfl),qt];refine⟨xb rfl,?_⟩;unfold kP;rw[g,j,d,ec,q,qt,qt];refine⟨⟨rfl,k⟩,xb ?_⟩;unfold wrap64;omega
        .show okNs o.code.args0;have:=u.c;rw[n]at this;exact this.2
        .show sizes o.code.args0<=3000000;have:=u.zc;rw[n]at this;simp only[Tr.size]at this;omega
      .cases a
    .cases h
   .cases h
  .cases h
 .cases h
def Im{L:Lg} : ∀n j,j+n=12->ib L n j<12->(L (ib L n j)).is=0
 | 0,j,h,a=>by simp only[ib]at a;omega
 | n+1,j,h,a=>by
  simp only[ib]at a|-;split
  .assumption
  .rename_i b;rw[if_neg b]at a;exact Im n (j+1) od a
def GL.set{L:Lg}{f:Int}{i:Nat}{A:Ac}(h:GL L f)(hi:i<12)(c:(L i).is=0)(d:GA i A)(hb:A.ji=0):GL (vU L i A) f:=by
 refine⟨λk a=>?_,h.EX.of λk a=>?_⟩
 .unfold vU;split
  .rename_i e;subst e;exact d
  .exact h.ac k a
 .unfold vU;split
  .rename_i e;subst e;have b:=(h.ac k a).whole;unfold iR at b;rw[if_pos c,qt,qt,jt]at b;rw[hb,b.1.1]
  .rfl
def aa6{k n p:Int}{s:bp}{l:Nat} : Lf.fD k n p s l≠14:=by
 unfold Lf.fD
 repeat' split
 all_goals decide
mutual
def first14:∀(t:Tr) (d:Nat),bC d t≠14
 | .nd k n p s a,d=>by
  simp only[bC];split
  .decide
  .split
   .exact aa6
   .exact firsts14 a (d+1)
def firsts14:∀(l:aE) (d:Nat),bG d l≠14
 | [],_=>by simp only[bG];decide
 | t::l,d=>by
  simp only[bG];split
  .exact first14 t d
  .exact firsts14 l d
end
def aau{n:Tr}{s:aw}{e:Int}(h:codeF n s =.no e):e≠14:=by
 unfold codeF at h;split at h
 .cases h;unfold dS;split
  .exact first14 _ _
  .split<;>decide
 .split at h
  .cases h;decide
  .split at h
   .cases h;decide
   .split at h
    .rename_i a;rcases (Ii (K_step 300) _ false s a).1 e h with rfl|rfl|rfl|rfl<;>decide
    .cases h;decide
def acI{P S:Ty}{n:Tr} : DR P S n≠14:=by
 unfold DR;split
 .split
  .rename_i e h;exact aau h
  .split<;>decide
 .decide
def ND{o:lI}{e:Int}(h:ku o =.error e):e≠14:=by
 unfold ku at h;split at h
 .split at h
  .split at h
   .split at h
    .split at h<;>cases h;decide
    .cases h;decide
   .cases h;exact acI
  .cases h;decide
 .cases h;decide
def aaO{W:Wk}{o:lI}(hW:WI W)(p:Ch o):yT W ((wy W o).1,[],(wy W o).2):=by
 unfold wy
 cases c:ku o with
 | error e=>exact .err hW ⟨rfl,rfl,rfl,rfl⟩ (qf0 _) (ka5 _) (ND c)
 | ok A =>
  dsimp only;split
  .exact .err hW ⟨rfl,rfl,rfl,rfl⟩ (Int.le_refl _) (Nat.le_succ _) (by dsimp only;decide)
  .rename_i d;have m:ib W.L 12 0<=12:=by
    have : ∀n j,j+n=12->ib W.L n j<=12:=λn=>by
     induction n with
     | zero=>intro j h;simp only[ib];omega
     | succ n q=>intro j h;simp only[ib];split;omega;exact q (j+1) od
    exact this 12 0 rfl
   have a:ib W.L 12 0<12:=od
   have h0:=Im 12 0 rfl a;generalize ib W.L 12 0=i at a h0;have f:4<=i:=by have:=(hW.gl.ac i a).per;omega
   have⟨g,_,l⟩:=Xm p c f;have b:=hW.gl.set a h0 g l;have k:=b.move (fr:=W.src) (dn:=i) (n:=o.lG);unfold aaJ;split
   .exact .err ⟨k,hW.aC,hW.paid,hW.Ze⟩ ⟨rfl,rfl,rfl,rfl⟩ (Int.le_refl _) (by show (W.made++[(i:Int)]).length<=_;simp) (by dsimp only;decide)
   .exact .err ⟨b,hW.aC,hW.paid,hW.Ze⟩ ⟨rfl,rfl,rfl,rfl⟩ (qf0 _) (ka5 _) Gd
def F9{W:Wk}{r:Rq}(hW:WI W)(a:RQ r):yT W (yS W r):=by
 cases r with
 | told f v=>exact Rj hW a
 | op f o =>
  simp only[yS];split
  .exact Rj hW a
  .split
   .exact aaO hW a
   .exact .err hW ⟨rfl,rfl,rfl,rfl⟩ (qf0 _) (ka5 _) ot
open Pe
def RO{n:Int}(h:-1000000000<=n/\n<=1000000000):bD n:=⟨od,od⟩
def abW{W:Wk}{i:Nat}{en:En}{x:Va}(hW:WI W)(hi:i<12)(E:(W.L i).is=2)(g:Ah en)(d:en.self=(i:Int))(w:Fit (W.L i).par x)(J:x.size<=120000):ClH i en x (pK W i en x).2.1 (pK W i en x).2.2 (I4 2900070 W) (I4 2900170 (pK W i en x).1):=by
 have c:=hW.gl.ac i hi;have U:=hW.paid;have S:=hW.aC;have v:=KQ (aC:=W.aC - W.paid) c E g w J;have F:okN (lD (W.L i)):=⟨⟨⟨ot,ot⟩,⟨ot,ot⟩,⟨ot,ot⟩,yv _⟩,c.ok.co⟩;have G:okTs [.nd 11 [(W.L i).par,(W.L i).oh]]:=⟨⟨⟨ot,ot⟩,c.ok.par,c.ok.oh,trivial⟩,trivial⟩;have H:okVs [aY x (W.L i).val]:=⟨⟨⟨⟨ot,ot⟩,⟨ot,ot⟩,⟨ot,ot⟩,yv _⟩,⟨fit_ok _ (jj _) w,c.ok.val,trivial⟩,trivial,trivial⟩,trivial⟩;have h:=aac (VK (en:=en) (aC:=W.aC - W.paid) F (by have:=c.ok.zc;simp only[lD,Tr.size];omega) G H oe (λy B=>by rw[qv]at B;subst B;have:=c.ok.zv;simp only[aY,mkV,Va.size,vsizes,tysizes,sizes];omega) (RO od) od);unfold pK;generalize Fy en (lD (W.L i)) [.nd 11 [(W.L i).par,(W.L i).oh]] [aY x (W.L i).val] (W.aC - W.paid)=r at v h;have⟨I,R,l⟩:=v;have m:mD (lW (IntKind.i64.wrap (W.aC - W.paid))) (iA (W.aC - W.paid)):=yY (zF rfl od od);have o:mD (lW (IntKind.i64.wrap (W.paid+r.aC))) (iA (W.paid+r.aC)):=yY (zF rfl od od);have b:=VI W.Ze r.aO;unfold Kk
 by_cases f:r.code=0
 .rw[if_pos f];have⟨T,k,n,q,z,K,s,V,M,p,N,O,D,P⟩:=l f;have⟨A,g1,g2,Q⟩:=xG D rfl;generalize addN W.Ze r.aO=C at b|-;have⟨a,e⟩:=C;dsimp only at b|-
  by_cases j:e=0
  .rw[if_pos j];subst j;rw[p];dsimp only;have u:=Nn (i:=en.self) (t:=K.args) od;rw[d]at u;exact acV h hi m o f b p d (by rw[d];exact u)
  .rw[if_neg j];exact aar h hi m o f b j
 .rw[if_neg f];exact aaq h hi m o f
def R6{W:Wk}{i:Nat}{en:En}{x:Va} : (pK W i en x).1.made=W.made:=by
 unfold pK Kk
 repeat' split
 all_goals rfl
def RQ.ok{r:Rq}(h:RQ r):RqOk r:=by
 cases r with
 | op f o=>exact⟨h.a,h.za⟩
 | told f v =>
  have⟨A,y,b,c,d⟩:=XK h.1;have:=(dE (je d)).2.1;exact⟨A,y,b,c,od⟩
def Yu{A:Ac}(h:JI A):okT (qO A):=by
 unfold qO;split
 .exact⟨⟨ot,ot⟩,trivial⟩
 .exact h.par
def Vy{W:Wk}{r:Rq}(hW:WI W)(J:RQ r):UH r (mW W r).2.1 (mW W r).2.2 (I4 2900070 W) (I4 2900170 (mW W r).1):=by
 have j:=Vx r;have c:=Vq (f:=W.fe) (fr:=r.fr) (dn:=r.dst) (n:=r.lG) hW.gl.EX.shares;have u:=hW.gl.move (fr:=r.fr) (dn:=r.dst) (n:=r.lG);unfold mW
 by_cases h0:(moveF W.L r.fr r.dst r.lG).2=0
 .rw[if_pos h0];have⟨O,P,Q,K,M⟩:=Gh h0;have b:r.dst.toNat<12:=by omega
  have I:((moveF W.L r.fr r.dst r.lG).1 r.dst.toNat).is≠0:=by rw[M,Qa];exact K
  rw[h0]at c;have hd:r.dst=Int.ofNat r.dst.toNat:=ov
  generalize (moveF W.L r.fr r.dst r.lG).1=a at u I c|-;generalize r.dst.toNat=i at b hd I|-;rw[hd]at j c;have q:=VV (L:=a) (f:=W.fe) (s:=W.src) (g:=W.aC) (d:=W.done) (p:=W.paid) (m:=W.Ze) (md:=mdOf W.made) b;have k:=Mh J.ok (Yu (u.ac i b).ok);unfold Cr;dsimp only
  cases B:argF r (qO (a i))with
  | none =>
   rw[B]at k
   cases r with
   | op f o=>exact Zq b j c q k
   | told f v=>exact Zr b j c q k
  | some x =>
   rw[B]at k;dsimp only
   by_cases t:(a i).is=1
   .rw[if_pos t];have y:jJ (decide ((a i).is=1)) true:=eT (xb t)
    cases r with
    | op f o=>exact Uy b j c q k y
    | told f v=>exact UB b j c q k y
   .rw[if_neg t];have y:jJ (decide ((a i).is=1)) false:=eT (zE t);have w:WI { W with L:=a }:=⟨u,hW.aC,hW.paid,hW.Ze⟩;have H:(a i).is=2:=by rcases Eh (u.ac i b).whole with h|h|h<;>omega
    have E:qO (a i)=(a i).par:=by unfold qO;rw[if_neg t];rfl
    rw[E]at B;have⟨F,G⟩:=OA (W:={ W with L:=a }) J B;have U:=u.EX.shares i b;have A:=abW (W:={ W with L:=a }) (en:=⟨i,r.fr,r.lG,(a i).ji⟩) w b H ZD rfl F G;have D:=(OH (W:={ W with L:=a }) (en:=⟨i,r.fr,r.lG,(a i).ji⟩) w b H ZD F G).same;have C:(pK { W with L:=a } i ⟨i,r.fr,r.lG,(a i).ji⟩ x).1.made=W.made:=R6;generalize pK { W with L:=a } i ⟨i,r.fr,r.lG,(a i).ji⟩ x=z at A D C|-;have⟨⟨N,S,sz,T,R,X,V,made⟩,l,e⟩:=z;dsimp only at D C A|-;obtain⟨rfl,rfl,rfl,rfl⟩:=D;subst C
    cases r with
    | op f o=>exact Uv b j c q k y A
    | told f v=>exact Uw b j c q k y A
 .rw[if_neg h0];exact aa4 j c h0
def adE{W:Wk}{r:Rq}(hW:WI W)(d:W.made.length<=100)(c:RQ r):UU r (yS W r).2.1 (yS W r).2.2 (I4 2900070 W) (I4 2900170 (yS W r).1):=by
 cases r with
 | told f v=>exact aay (Vy hW c)
 | op f o =>
  simp only[yS]
  by_cases a:o.kind=1
  .rw[if_pos a];exact aaz (Vy hW c) a
  .rw[if_neg a]
   by_cases b:o.kind=2
   .rw[if_pos b];exact aax (ab2 c hW.gl.EX.shares d) b
   .rw[if_neg b];exact aaw a b
structure WP (W:Wk):Prop extends WI W where
 done:0<=W.done/\W.done<=24
 made:(W.made.length:Int)<=W.done
def PW (W:Wk) (rs:List Rq):Prop:=WP W/\∀r∈rs,RQ r
def QW (W:Wk) (os:List lI):Prop:=WP W/\∀o∈os,Ch o
def way:Way PW where
 dos a _:=adE a.1.toWI (by have:=a.1.done;have:=a.1.made;omega) (a.2 _ oe)
 err a:=(F9 a.1.toWI (a.2 _ oe)).new
 few a:=(F9 a.1.toWI (a.2 _ oe)).few
 done a:=(F9 a.1.toWI (a.2 _ oe)).same.2.2.1
 next a c _:=by
  have h:=F9 a.1.toWI (a.2 _ (je7 ..));have⟨f,g,i,j⟩:=h.same;have hd:=a.1.done;have e:=a.1.made;have d:=h.made;refine⟨⟨⟨h.wi.gl,h.wi.aC,h.wi.paid,h.wi.Ze⟩,Kf,Kf⟩,λr b=>?_⟩;rcases ki.1 b with b|b
  .exact a.2 r (by simp[b])
  .exact h.rq r b
structure abd (W:Wk) (z:Wk×Int):Prop where
 wi:WI z.1
 wp:z.2=0->WP z.1
 same:z.1.src=W.src/\z.1.aC=W.aC/\z.1.fe=W.fe
 paid:W.paid<=z.1.paid
 code:z.2≠14
def row_ok:∀(N:Nat) (W:Wk) (rs:List Rq),PW W rs->(24 - W.done).toNat+2<=N->abd W (rowF N W rs)
 | 0,W,rs,a,h=>od
 | N+1,W,[],a,_=>⟨a.1.toWI,λ_=>a.1,⟨rfl,rfl,rfl⟩,qf0 _,by simp only[rowF];decide⟩
 | N+1,W,r::rs,a,p=>by
  have h:=F9 a.1.toWI (a.2 _ (je7 ..));have j:=@Way.next _ way W r rs a
  have⟨f,g,s,i⟩:=h.same;have hd:=a.1.done;have q:=a.1.made;have k:=h.made;have e:=h.paid;simp only[rowF];split
  .exact⟨a.1.toWI,λh=>absurd (show (7:Int)=0 from h) ot,⟨rfl,rfl,rfl⟩,Int.le_refl _,by dsimp only;decide⟩
  .rename_i c;split
   .rename_i d;have b:=row_ok N _ _ (j c d) Kf;have⟨m,n,o⟩:=b.same;have l:=b.paid;exact⟨b.wi,b.wp,⟨m.trans f,n.trans g,o.trans i⟩,by dsimp only at l;omega,b.code⟩
   .rename_i d;exact⟨h.wi,λh=>absurd h d,⟨f,g,i⟩,e,h.code⟩
def all_ok:∀(os:List lI) (W:Wk),QW W os->abd W (doneF W os)
 | [],W,a=>⟨a.1.toWI,λ_=>a.1,⟨rfl,rfl,rfl⟩,qf0 _,by simp only[doneF];decide⟩
 | o::os,W,a=>by
  have hd:=a.1.done;have h:=row_ok 26 W [.op W.src o] ⟨a.1,λr c=>by rw[qv]at c;subst c;exact a.2 o oe⟩ od;have⟨f,g,i⟩:=h.same;have m:=h.paid;simp only[doneF];split
  .rename_i d;have b:=all_ok os _ ⟨h.wp d,λo e=>a.2 o (by simp[e])⟩;have⟨j,k,l⟩:=b.same;have n:=b.paid;exact⟨b.wi,b.wp,⟨j.trans f,k.trans g,l.trans i⟩,od,b.code⟩
  .exact h
def wayC:aak QW where
 row a:=ab4 way ⟨a.1,λr b=>by rw[qv]at b;subst b;exact a.2 _ oe⟩ a.1.done
 next a c:=by have hd:=a.1.done;exact⟨(row_ok 26 _ _ ⟨a.1,λr b=>by rw[qv]at b;subst b;exact a.2 _ oe⟩ od).wp c,λo d=>a.2 o (by simp[d])⟩
structure pg (b:Bt):Prop where
 ops:∀o∈b.ops,Ch o
 aC:b.aC<=50000
def qF{L:Lg}{f:Int}{b:Bt}(h:GL L f)(hb:pg b)(a:mf L f b=0):QW ⟨jo L b,f+b.eD,b.src,b.aC,0,0,0,[]⟩ b.ops:=by have c:=(kM a).2.2.2.1;exact⟨⟨⟨(h.Br a).1,hb.aC,⟨qf0 0,c.2.1⟩,⟨qf0 0,by show (0:Int)<=1152921504606846976;decide⟩⟩,⟨qf0 0,by show (0:Int)<=24;decide⟩,qf0 0⟩,hb.ops⟩
def l6{L:Lg}{f:Int}{b:Bt}(h:GL L f)(hb:pg b):GL (bn L f b).1 (bn L f b).2.1:=by
 unfold bn;split
 .rename_i a;have c:=all_ok b.ops _ (qF h hb a);split
  .exact c.wi.gl
  .exact (h.Br a).1
 .exact h
def BV{L:Lg}{f:Int}{b:Bt}(h:GL L f)(hb:pg b):Mg L f b (bn L f b).1 (bn L f b).2.1 (Me (bn L f b).2.2):=ZZ wayC h.oks (qF h hb)
set_option maxRecDepth 100000
set_option maxHeartbeats 4000000
def wo (b:Bt):bd:=[.v (.i b.src),.v (.i b.cnt),.v (.i b.eD),.v (.i b.aC),.s 23 (b.ops.map wO)]
def vT (l:List Bt):A1:=.one (.d (.s 5 (l.map wo)))
def ZP (f:FuncId):A1:=.one (.d (.v (.func (.func f) #[] #[])))
def atB (l:List Bt) (j:Nat) (b:Bt):Prop:=Bp 5 5 (l.map wo) j=some (.of (.one (.e (wo b) 0)))
def Cm{l:List Bt}{j:Nat}{b:Bt}(h:l[j]?=some b):atB l j b:=by unfold atB Bp;rw[qb0,h];rfl
def rM (b:Bt):Bt:=if 3000<b.aC then { b with aC:=3000 } else b
def alO:lI:=⟨1,2,7,.nd 2 0 20 ⟨#[]⟩ [],.nd 0 0 0 ⟨#[]⟩ [],.nd 0 0 0 ⟨#[]⟩ [],.nd 0 0 0 ⟨#[]⟩ []⟩
def alB:Bt:=⟨0,1,3,0,[alO]⟩
def zN:bd:=[.v (.i 0),.v (.i 0),.v (.i 0),.v (.string ⟨#[]⟩),.s 0 []]
def alR:bd:=[.v (.i 1),.v (.i 2),.v (.i 7),.v (.i 2),.v (.i 0),.v (.i 20),.v (.string ⟨#[]⟩),.s 0 []]++(zN++(zN++zN))
def alR_le:rowsLe [alR] ([alO].map wO):=by have z:Ja (.s 0 []) (.s 5 []):=.inr ⟨rfl,5,ot,rfl⟩;exact⟨⟨.inl rfl,.inl rfl,.inl rfl,.inl rfl,.inl rfl,.inl rfl,.inl rfl,z,.inl rfl,.inl rfl,.inl rfl,.inl rfl,z,.inl rfl,.inl rfl,.inl rfl,.inl rfl,z,.inl rfl,.inl rfl,.inl rfl,.inl rfl,z,trivial⟩,trivial⟩
def alB_ok:pg alB:=by
 have z:okN (.nd 0 0 0 ⟨#[]⟩ []):=by simp[okN,okNs,bD,maxLen,ByteArray.size]
 refine⟨λo a=>?_,by show (0:Int)<=50000;decide⟩;rw[show alB.ops=[alO] from rfl,qv]at a;subst a;exact⟨z,z,z,by simp[alO,okN,okNs,bD,maxLen,ByteArray.size],by simp[alO,Tr.size,sizes],by simp[alO,Tr.size,sizes]⟩
def al_refu:mf newL 0 alB=0:=by unfold mf;rw[if_pos new_GL.good,if_pos (by simp[p8,alB,newL,AB]),if_pos (by simp[alB,newL,AB]),if_pos (by simp[alB]),if_pos (by simp[alB]),if_neg (by simp[alB,newL,AB])]
def alL1:Lg:=jo newL alB
def al_mov:moveF alL1 0 2 7=(mV alL1 0 2 7,0):=by unfold moveF;rw[if_pos (by simp[ou,alL1,jo,alB,newL,AB]),if_pos (by simp[rf]),if_neg (by simp[alL1,jo,alB,newL,AB])];rfl
def al_parse:∃x,jf (.nd 1 []) alO.arg=some x:=⟨fM 1 0 ⟨#[]⟩ [],by rfl⟩
def al_back:Cr ⟨mV alL1 0 2 7,3,0,0,0,0,0,[]⟩ (.op 0 alO) 2=(⟨mV alL1 0 2 7,3,0,0,0,0,0,[]⟩,[],0):=by
 have⟨x,c⟩:=al_parse;have a:(mV alL1 0 2 7 2).is=1:=by simp[mV,gY,alL1,jo,alB,newL,AB]
 unfold Cr;have b:qO (mV alL1 0 2 7 2) =.nd 1 []:=by unfold qO;rw[if_pos a]
 rw[b];rw[show argF (.op 0 alO) (.nd 1 [])=some x from c];dsimp only;rw[if_pos a]
def al_tran:mW ⟨alL1,3,0,0,0,0,0,[]⟩ (.op 0 alO)=(⟨mV alL1 0 2 7,3,0,0,0,0,0,[]⟩,[],0):=by unfold mW;show (if (moveF alL1 0 2 7).2=0 then Cr ⟨(moveF alL1 0 2 7).1,3,0,0,0,0,0,[]⟩ (.op 0 alO) 2 else _)=_;rw[al_mov,if_pos rfl];exact al_back
def al_done:doneF ⟨alL1,3,0,0,0,0,0,[]⟩ alB.ops=(⟨mV alL1 0 2 7,3,0,0,1,0,0,[]⟩,0):=by
 have hd:yS ⟨alL1,3,0,0,0,0,0,[]⟩ (.op 0 alO)=(⟨mV alL1 0 2 7,3,0,0,0,0,0,[]⟩,[],0):=by simp only[yS];rw[if_pos (show alO.kind=1 from rfl)];exact al_tran
 have a:rowF 26 ⟨alL1,3,0,0,0,0,0,[]⟩ [.op 0 alO]=(⟨mV alL1 0 2 7,3,0,0,1,0,0,[]⟩,0):=by simp[rowF,hd]
 rw[show alB.ops=[alO] from rfl,doneF];dsimp only;rw[a,if_pos rfl,doneF]
def al_app:bn newL 0 alB=(mV alL1 0 2 7,3,⟨0,1,0,0,[]⟩):=by unfold bn;rw[if_pos al_refu];rw[show (⟨jo newL alB,0+alB.eD,alB.src,alB.aC,0,0,0,[]⟩:Wk)=⟨alL1,3,0,0,0,0,0,[]⟩ from rfl,al_done,if_pos rfl]
def H_alive:Hd ⟨25,[],aQ true⟩:=by
 have l:=H_new;have c:=BV new_GL alB_ok;rw[al_app]at c;dsimp only at c;have f:(mV alL1 0 2 7 2).ji=1000007:=by simp[mV,gY,alL1,jo,alB,newL,AB]
 have hA2:Hd ⟨20,[lC newL 0,.agg [.d (.v (.i 0)),.d (.v (.i 1)),.d (.v (.i 3)),.d (.v (.i 0)),.d (.s 23 [alR])]],.rz [lC (mV alL1 0 2 7) 3,.agg (Me ⟨0,1,0,0,[]⟩)]⟩ :=
  Holds.conv c (λx w u h=>by
   match u,h with
   | [a,b],⟨j,⟨t,e,k⟩,_⟩ =>
    match t,k with
    | [u1,u2,u3,u4,u5],⟨n,o,p,q,r,_⟩=>exact⟨j,⟨_,e,n,o,p,q,adu alR_le r,trivial⟩,trivial⟩) (λ_ _ _ h=>h)
 generalize mV alL1 0 2 7=g at hA2 f;have m:jJ (decide ((g 2).ji=1000007)) true:=eT (xb f);exact runT func25 [(25,bA true)] [⟨_,l⟩,⟨_,hA2⟩] (al m al0)
noncomputable def playF:Nat->List Bt->Lg->Int->Lg×Int
 | 0,_,L,f=>(L,f)
 | _+1,[],L,f=>(L,f)
 | n+1,b::bs,L,f=>playF n bs (bn L f (rM b)).1 (bn L f (rM b)).2.1
def su (l:List Bt):Prop:=∀b∈l,∀o∈b.ops,Ch o
def su.cap{l:List Bt}{b:Bt}(h:su l)(hb:b∈l):pg (rM b):=by
 unfold rM;split
 .exact⟨h b hb,by show (3000:Int)<=50000;decide⟩
 .exact⟨h b hb,od⟩
structure rT (A B:Ac):Prop where
 is:A.is=B.is
 pt:A.pt=B.pt
 pa:A.pa=B.pa
 st:A.st=B.st
 sa:A.sa=B.sa
 co:A.co=B.co
def Kp (L L':Lg):Prop:=∀i,i<12->(L' i).cnt=(L i).cnt/\((L i).is≠0->rT (L i) (L' i))
def rT.refl(A:Ac):rT A A:=⟨rfl,rfl,rfl,rfl,rfl,rfl⟩
def rT.trans{A B C:Ac}(h:rT A B)(k:rT B C):rT A C:=⟨h.is.trans k.is,h.pt.trans k.pt,h.pa.trans k.pa,h.st.trans k.st,h.sa.trans k.sa,h.co.trans k.co⟩
def Kp.refl(L:Lg):Kp L L:=λi _=>⟨rfl,λ_=>.refl _⟩
def Kp.trans{L M N:Lg}(h:Kp L M)(k:Kp M N):Kp L N:=λi a=>⟨(k i a).1.trans (h i a).1,λb=>by have c:=(h i a).2 b;exact c.trans ((k i a).2 (by rw[<-c.is];exact b))⟩
def XO{L:Lg}{i:Nat}{v:Int} : Kp L (gY L i v):=λk _=>by
 unfold gY;split
 .rename_i e;subst e;exact⟨rfl,λ_=>⟨rfl,rfl,rfl,rfl,rfl,rfl⟩⟩
 .exact⟨rfl,λ_=>.refl _⟩
def BA{L:Lg}{fr dn n:Int} : Kp L (moveF L fr dn n).1:=by
 unfold moveF;split
 .split
  .split
   .exact .refl L
   .exact XO.trans XO
  .exact .refl L
 .exact .refl L
def acp{L:Lg}{i:Nat}{s:Va} : Kp L (NY L i s):=λk _=>by
 unfold NY;split
 .rename_i e;subst e;exact⟨rfl,λ_=>⟨rfl,rfl,rfl,rfl,rfl,rfl⟩⟩
 .exact⟨rfl,λ_=>.refl _⟩
def GA.cnt{i:Nat}{A:Ac}(h:GA i A):0<=A.cnt/\A.cnt<=1152921504606846976/\(A.is≠1->A.cnt=0):=by
 have a:=h.whole;rcases Eh a with h0|b|c
 .unfold iR at a;rw[if_pos h0,qt,qt,jt,jt]at a;rw[a.1.2];exact⟨ot,ot,λ_=>rfl⟩
 .unfold iR at a;rw[oa,if_pos b,qt]at a;have:=a.1;simp only[rf,jt]at this;exact⟨this.1,this.2,λh=>absurd b h⟩
 .unfold iR at a;rw[oa,oa,if_pos c,qt,jt]at a;rw[a.1];exact⟨ot,ot,λ_=>rfl⟩
def aco{L:Lg}{f:Int}{i:Nat}{A:Ac}(h:GL L f)(hi:i<12)(a:(L i).is=0)(hc:A.cnt=0):Kp L (vU L i A):=λk b=>by
 unfold vU;split
 .rename_i e;subst e;exact⟨by rw[hc];exact ((h.ac k b).cnt.2.2 od).symm,λh=>absurd a h⟩
 .exact⟨rfl,λ_=>.refl _⟩
def aaH{W:Wk}{i:Nat}{en:En}{x:Va} : Kp W.L (pK W i en x).1.L:=by
 unfold pK Kk
 repeat' split
 all_goals first|exact .refl _|exact acp
def PR{W:Wk}{r:Rq} : Kp W.L (mW W r).1.L:=by
 unfold mW;split
 .unfold Cr;split
  .exact BA
  .split
   .exact BA
   .exact BA.trans (aaH (W:={ W with L:=(moveF W.L r.fr r.dst r.lG).1 }))
 .exact .refl _
def R8{o:lI}{A:Ac}(h:ku o =.ok A):A.cnt=0:=by
 unfold ku at h;split at h
 .split at h
  .split at h
   .split at h
    .split at h<;>cases h;rfl
    .cases h
   .cases h
  .cases h
 .cases h
def SF{L:Lg} : ib L 12 0<=12:=by
 have : ∀n j,j+n=12->ib L n j<=12:=λn=>by
  induction n with
  | zero=>intro j h;simp only[ib];omega
  | succ n a=>intro j h;simp only[ib];split;omega;exact a (j+1) od
 exact this 12 0 rfl
def aaI{W:Wk}{o:lI}(hW:WI W):Kp W.L (wy W o).1.L:=by
 unfold wy
 cases c:ku o with
 | error e=>exact .refl _
 | ok A =>
  dsimp only;split
  .exact .refl _
  .rename_i b;have d:=SF (L:=W.L);have h0:=Im 12 0 rfl (show ib W.L 12 0<12 by omega);have a:=aco hW.gl (show ib W.L 12 0<12 by omega) h0 (R8 c);unfold aaJ;split
   .exact a.trans BA
   .exact a
def acY{W:Wk}{r:Rq}(hW:WI W):Kp W.L (yS W r).1.L:=by
 cases r with
 | told f v=>exact PR
 | op f o =>
  simp only[yS];split
  .exact PR
  .split
   .exact aaI hW
   .exact .refl _
def kp_row:∀(N:Nat) (W:Wk) (rs:List Rq),PW W rs->Kp W.L (rowF N W rs).1.L
 | 0,W,rs,_=>.refl _
 | N+1,W,[],_=>.refl _
 | N+1,W,r::rs,c=>by
  have d:=@Way.next _ way W r rs c
  have b:=acY (r:=r) c.1.toWI;simp only[rowF];split
  .exact .refl _
  .rename_i a;split
   .rename_i e;exact b.trans (kp_row N _ _ (d a e))
   .exact b
def kp_all:∀(os:List lI) (W:Wk),QW W os->Kp W.L (doneF W os).1.L
 | [],W,_=>.refl _
 | o::os,W,a=>by
  have e:PW W [.op W.src o]:=⟨a.1,λr c=>by rw[qv]at c;subst c;exact a.2 o oe⟩;have b:=kp_row 26 W _ e;simp only[doneF];split
  .rename_i d;exact b.trans (kp_all os _ (wayC.next a d))
  .exact b
variable [Wt]
def aeo{T:Ty}{p:Int}{r:Int×aw}(h:dL T p=some r):T.t≠15:=by intro e;unfold dL at h;simp[e]at h
def xE{t m:Int}{s:bp}{l:ao}(a:t≠15)(b:tkVs l=0):tkV (fM t m s l)=0:=by simp[fM,tkV,a,b]
mutual
def readT_tk:∀(t:Tr) (T:Ty) (x:Va),readT t T=some x->tkV x=0
 | .nd k n p s a,T,x=>by
  intro h;rw[readT]at h;split at h
  .rename_i c;split at h
   .simp only[qq]at h;subst h;exact xE od rfl
   .cases h
  .split at h
   .split at h
    .simp only[qq]at h;subst h;exact xE ot rfl
    .cases h
   .split at h
    .split at h
     .simp only[qS]at h;obtain⟨d,b,rfl⟩:=h;exact xE ot (readTs_tk a _ d b)
     .cases h
    .split at h
     .split at h
      .simp only[qS]at h;obtain⟨d,b,rfl⟩:=h;exact xE ot (readEs_tk a _ d b)
      .cases h
     .split at h
      .cases h
      .rename_i m f e;simp only[qS]at h;obtain⟨d,b,rfl⟩:=h;exact xE (aeo e) (readTs_tk a _ d b)
def readTs_tk:∀(l:aE) (ts:aw) (xs:ao),readTs l ts=some xs->tkVs xs=0
 | [],[],xs=>by intro h;simp[readTs]at h;subst h;rfl
 | [],_::_,xs=>by intro h;simp[readTs]at h
 | _::_,[],xs=>by intro h;simp[readTs]at h
 | t::l,T::ts,xs=>by
  intro h;rw[readTs]at h
  cases a:readT t T with
  | none=>rw[a]at h;cases h
  | some x =>
   rw[a]at h;simp only[qS]at h;obtain⟨c,b,rfl⟩:=h;rw[tkVs,readT_tk t T x a,readTs_tk l ts c b]
def readEs_tk:∀(l:aE) (ts:aw) (xs:ao),readEs l ts=some xs->tkVs xs=0
 | [],ts,xs=>by intro h;simp[readEs]at h;subst h;rfl
 | .nd k n p s a::l,ts,xs=>by
  intro h;rw[readEs]at h
  cases b:readTs a ts with
  | none=>rw[b]at h;cases h
  | some d =>
   rw[b]at h;simp only at h;split at h
   .simp only[qS]at h;obtain⟨e,c,rfl⟩:=h;rw[tkVs,xE ot (readTs_tk a ts d b),readEs_tk l ts e c]
   .cases h
end
def adK{T:Ty}{t:Tr}{x:Va}(h:jf T t=some x):tkV x=0:=by
 unfold jf at h;split at h
 .split at h
  .cases h
  .rename_i y a;split at h
   .simp only[qq]at h;subst h;exact readT_tk _ _ _ a
   .cases h
 .cases h
def afl{i:Nat}{A:Ac}{en:En}{x:Va}{aC:Int}(p:GA i A)(w:A.is=2)(a:Ah en)(E:Fit A.par x)(H:x.size<=120000){b:Bool}(hb:Wt.q en.self->b)
 (h0:(Fy en (lD A) [.nd 11 [A.par,A.oh]] [aY x A.val] aC).code=0) :
 (tkVs (Fy en (lD A) [.nd 11 [A.par,A.oh]] [aY x A.val] aC).stack:Int) - RJ b (Fy en (lD A) [.nd 11 [A.par,A.oh]] [aY x A.val] aC).aO<=(tkV x+tkV A.val:Nat)/\(mintsTs A.co=false->(Fy en (lD A) [.nd 11 [A.par,A.oh]] [aY x A.val] aC).aO=0):=by
 have o:=p.whole;unfold iR at o;rw[oa,oa,if_pos w,qt]at o;have⟨⟨I,J⟩,k,f,G,c,j⟩:=GN o.2;have y:ai (.nd 11 [A.par,A.oh]):=by
  unfold codeF at c;split at c
  .cases c
  split at c
  .cases c
  split at c
  .cases c
  split at c
  .rename_i h;simpa using h
  .cases c
 have hF:FitS [.nd 11 [A.par,A.oh]] [aY x A.val]:=⟨qB y E k,trivial⟩;have D:=p.ok.zv;have n:(aY x A.val).size<=6000000:=by simp only[aY,mkV,Va.size,vsizes,tysizes,sizes];omega
 have s:Sq [aY x A.val]:=λv k=>by rw[qv]at k;subst k;exact⟨n,trivial⟩
 have⟨N,l⟩:=Cg (aC:=aC) (z:=[Wl A.oh]) (CU a) c (λh=>(j h).symm) oe hF s;have C:Fy en (lD A) [.nd 11 [A.par,A.oh]] [aY x A.val] aC=rsO (fq en aC N (jO [aY x A.val] (lD A).args0)):=by unfold Fy;rw[if_pos ⟨a,zb.2 ⟨⟨f,G,c⟩,hF⟩⟩,xA (uW l)]
 have r:=Gg (aC:=aC) (z:=[Wl A.oh]) c (λh=>(j h).symm) hF s;rw[C]at h0|-
 cases d:fq en aC N (jO [aY x A.val] (lD A).args0)with
 | stuck=>rw[d]at h0;cases h0
 | no e m =>
  rw[d]at h0 l;have h0:e=0:=h0;have⟨_,g⟩:=l;exfalso;rcases g with g|g|g|g<;>omega
 | go m =>
  refine⟨?_,λB=>?_⟩
  .have u:=aeh (b:=b) hb (S:=[Wl A.oh]) (CU a) oe N _ m r d;have F:tkM b (jO [aY x A.val] (lD A).args0)=(tkV x+tkV A.val:Nat):=by
    simp only[tkM,jO,tkF,tkVs,aY,mkV,tkV,RJ];simp
   rw[F]at u;exact u
  .exact aed (CU a) (S:=[Wl A.oh]) oe N _ m r (λf t=>by simp only[jO,qv]at t;subst t;exact⟨B,rfl⟩) d
def VG (A:Ac):Nat:=if A.is=2 then tkV A.val else 0
def uY (L:Lg):Nat->Nat
 | 0=>0
 | n+1=>uY L n+VG (L n)
def tkR:Rq->Nat
 | .op _ _=>0
 | .told _ v=>tkVs v.args
def tkQ:List Rq->Nat
 | []=>0
 | r::l=>tkR r+tkQ l
def tkQ_app:∀a b:List Rq,tkQ (a++b)=tkQ a+tkQ b
 | [],b=>by simp[tkQ]
 | x::a,b=>by rw[qd2,tkQ,tkQ,tkQ_app a b];omega
def adL(i:Nat):∀l:ao,tkQ (l.map (Rq.told i))<=tkVs l
 | []=>jj 0
 | v::l=>by have a:=adL i l;have b:=qj v;simp only[qc0,tkQ,tkR,tkVs];omega
def wS{L M:Lg} : ∀n,(∀k,k<n->VG (M k)=VG (L k))->uY M n=uY L n
 | 0,_=>rfl
 | n+1,h=>by rw[uY,uY,wS n λk a=>h k od,h n od]
def ac3{L M:Lg}{i:Nat}(h:∀k,k≠i->VG (M k)=VG (L k)):∀n,i<n->uY M n+VG (L i)=uY L n+VG (M i)
 | 0,b=>od
 | n+1,b=>by
  rw[uY,uY]
  by_cases e:i=n
  .subst e;rw[wS i λk c=>h k od];omega
  .have:=ac3 h n od;rw[h n (λa=>e a.symm)];omega
def Y4{L:Lg}{i:Nat}{v:Int}(k:Nat):VG (gY L i v k)=VG (L k):=by
 unfold gY;split
 .rename_i e;subst e;rfl
 .rfl
def aeg{L:Lg}{fr dn n:Int}(k:Nat):VG ((moveF L fr dn n).1 k)=VG (L k):=by
 unfold moveF
 repeat' split
 all_goals first|rfl|(unfold mV;exact (Y4 k).trans (Y4 k))
def afp{L:Lg}{i:Nat}{s:Va}(hi:i<12)(a:(L i).is=2):uY (NY L i s) 12+tkV (L i).val=uY L 12+tkV s:=by
 have h:=ac3 (L:=L) (M:=NY L i s) (i:=i) (λk d=>by unfold NY;rw[if_neg d]) 12 hi;have b:VG (L i)=tkV (L i).val:=by unfold VG;rw[if_pos a]
 have c:VG (NY L i s i)=tkV s:=by unfold VG NY;rw[if_pos rfl,if_pos a];cases s;rfl
 rw[b,c]at h;exact h
def NoM (b:Bool) (L:Lg):Prop:=∀i:Nat,i<12->Wt.q (i:Int)->(L i).is=2->b\/mintsTs (L i).co=false
def Oz (b:Bool) (W:Wk) (rs:List Rq):Int:=(uY W.L 12+tkQ rs:Nat) - RJ b W.Ze
def aeX{b:Bool}{m n:Int} : RJ b (m+n)=RJ b m+RJ b n:=by unfold RJ;split<;>omega
def aeT{b:Bool}{W:Wk}{i:Nat}{en:En}{x:Va}(hW:WI W)(A:NoM b W.L)(hi:i<12)(g:(W.L i).is=2)(D:en.self=(i:Int))(c:Ah en)(w:Fit (W.L i).par x)(y:x.size<=120000)(d:(pK W i en x).2.2=0) :
 Oz b (pK W i en x).1 (pK W i en x).2.1<=Oz b W []+tkV x:=by
 have v:=KQ (aC:=W.aC - W.paid) (hW.gl.ac i hi) g c w y;have j:=λ(b:Bool) (e:Wt.q en.self->b) h0=>afl (aC:=W.aC - W.paid) (hW.gl.ac i hi) g c w y (b:=b) e h0;unfold pK at d|-;generalize Fy en (lD (W.L i)) [.nd 11 [(W.L i).par,(W.L i).oh]] [aY x (W.L i).val] (W.aC - W.paid)=r at v j d|-;have⟨N,M,o⟩:=v;unfold Kk at d|-;split at d
 .rename_i h0;have⟨P,k,n,q,z,m,p,ty,cd,u,H,I,J,K⟩:=o h0;split at d
  .rename_i l;simp only[if_pos h0,if_pos l,u];have f:=abo l;have C:(tkVs [Va.mk k n q z [m,p] ty cd]:Int) - RJ b r.aO<=(tkV x+tkV (W.L i).val:Nat):=by
    rw[<-u]
    by_cases a:Wt.q en.self
    .rcases A i hi (by rw[<-D];exact a) g with e|e
     .exact (j b (λ_=>e) h0).1
     .have⟨t,G⟩:=j true (λ_=>rfl) h0;rw[G e]at t|-;simp only[RJ,if_true]at t;unfold RJ;split<;>exact t
    .exact (j b (λh=>absurd h a) h0).1
   have F:=qj (Va.mk k n q z [m,p] ty cd);simp only[Va.args,tkVs]at F C;have O:=adL i m.args;have B:=qj m;have E:=afp (s:=p) hi g;simp only[Oz,tkQ];rw[f,aeX];omega
  .rename_i l;exact absurd d l
 .rename_i h0;exact absurd d h0
def aeR{b:Bool}{W:Wk}{r:Rq}{i:Nat}(hW:WI W)(n:NoM b W.L)(s:RQ r)(hi:i<12)(hn:(W.L i).is≠0)(q:0<=r.fr/\r.fr<12)(p:0<=r.lG/\r.lG<=1152921504606846976)(c:(Cr W r i).2.2=0):Oz b (Cr W r i).1 (Cr W r i).2.1<=Oz b W [r]:=by
 unfold Cr at c|-
 cases a:argF r (qO (W.L i))with
 | none=>rw[a]at c;cases c
 | some x =>
  rw[a]at c;have t:tkV x<=tkR r:=by
   cases r with
   | op f o=>rw[adK (show jf _ o.arg=some x from a)];exact yv _
   | told f v =>
    simp only[argF]at a;split at a
    .simp only[qq]at a;subst a;show tkV (v.args.headD zeroVa)<=tkVs v.args
     cases v.args with
     | nil=>simp[zeroVa,tkV,tkVs]
     | cons y l=>simp only[List.headD_cons,tkVs];omega
    .cases a
  dsimp only at c|-;split at c
  .rename_i d;simp only[if_pos d];simp only[Oz,tkQ];omega
  .rename_i d;simp only[if_neg d];have m:(W.L i).is=2:=by rcases Eh (hW.gl.ac i hi).whole with h|h|h<;>omega
   have e:qO (W.L i)=(W.L i).par:=by unfold qO;rw[if_neg d];rfl
   rw[e]at a;have⟨j,k⟩:=OA s a;have g:=hW.gl.EX.shares i hi;have h:=aeT (b:=b) (en:=⟨i,r.fr,r.lG,(W.L i).ji⟩) hW n hi m rfl ZD j k c;simp only[Oz,tkQ]at h|-;omega
def aej{b:Bool}{W:Wk}{r:Rq}(hW:WI W)(p:NoM b W.L)(t:RQ r)(a:(mW W r).2.2=0):Oz b (mW W r).1 (mW W r).2.1<=Oz b W [r]:=by
 have o:=hW.gl.move (fr:=r.fr) (dn:=r.dst) (n:=r.lG);have hk:=BA (L:=W.L) (fr:=r.fr) (dn:=r.dst) (n:=r.lG);unfold mW at a|-;split at a
 .rename_i h0;simp only[if_pos h0];have⟨g,u,j,l,c⟩:=Gh h0;have q:((moveF W.L r.fr r.dst r.lG).1 r.dst.toNat).is≠0:=by rw[c,Qa];exact l
  have h:=aeR (b:=b) (W:={ W with L:=(moveF W.L r.fr r.dst r.lG).1 }) ⟨o,hW.aC,hW.paid,hW.Ze⟩ (λi f s d=>by
   have m:(W.L i).is=2:=by rw[c,Qa]at d;exact d
   rw[((hk i f).2 od).co.symm];exact p i f s m) t od q g j a
  have e:uY (moveF W.L r.fr r.dst r.lG).1 12=uY W.L 12:=wS 12 λk _=>aeg k;simp only[Oz]at h|-;rw[e]at h;exact h
 .rename_i h0;exact absurd a h0
def aey{o:lI}{A:Ac}(h:ku o =.ok A):VG A=0:=by
 unfold ku at h;split at h
 .split at h
  .split at h
   .split at h
    .rename_i x b;split at h
     .cases h
     .cases h;unfold VG;have:=adK b;have⟨k,n,a,s,c,e,d⟩:=x;split
      .exact this
      .rfl
    .cases h
   .cases h
  .cases h
 .cases h
def ae0{b:Bool}{W:Wk}{o:lI}(a:(wy W o).2=0):Oz b (wy W o).1 []<=Oz b W []:=by
 unfold wy at a|-
 cases c:ku o with
 | error e=>rw[c]at a;exact absurd a (Xw c)
 | ok A =>
  rw[c]at a;dsimp only at a|-;split at a
  .cases a
  .rename_i d;simp only[if_neg d];have j:=SF (L:=W.L);have g:ib W.L 12 0<12:=by omega
   generalize ib W.L 12 0=i at g a|-;unfold aaJ at a|-;split at a
   .rename_i f;simp only[if_pos f];have e:uY (moveF (vU W.L i A) W.src i o.lG).1 12=uY (vU W.L i A) 12:=wS 12 λk _=>aeg k;have h:=ac3 (L:=W.L) (M:=vU W.L i A) (i:=i) (λk hk=>by unfold vU;rw[if_neg hk]) 12 g;have l:VG (vU W.L i A i)=0:=by unfold vU;rw[if_pos rfl];exact aey c
    simp only[Oz];rw[e];omega
   .rename_i f;exact absurd a f
def aft{b:Bool}{W:Wk}{r:Rq}(hW:WI W)(d:NoM b W.L)(e:RQ r)(a:(yS W r).2.2=0):Oz b (yS W r).1 (yS W r).2.1<=Oz b W [r]:=by
 cases r with
 | told f v=>exact aej hW d e a
 | op f o =>
  simp only[yS]at a|-;split at a
  .rename_i c;simp only[if_pos c];exact aej hW d e a
  .rename_i c;simp only[if_neg c];split at a
   .rename_i g;simp only[if_pos g];have:=ae0 (b:=b) a;simp only[Oz,tkQ,tkR]at this|-;omega
   .cases a
section
variable [Wt]
def NoM.back{b:Bool}{L M:Lg}(h:NoM b M)(k:Kp L M):NoM b L:=λi a e d=>by have c:=(k i a).2 od;rw[c.co];exact h i a e (by rw[<-c.is];exact d)
def aeJ{b:Bool} : ∀(N:Nat) (W:Wk) (rs:List Rq),PW W rs->(rowF N W rs).2=0->NoM b (rowF N W rs).1.L->Oz b (rowF N W rs).1 []<=Oz b W rs
 | 0,W,rs,_,a,_=>by cases a
 | N+1,W,[],_,_,_=>qf0 _
 | N+1,W,r::rs,g,a,e=>by
  have j:=@Way.next _ way W r rs g
  have k:=acY (r:=r) g.1.toWI;have i:=λh=>aft (b:=b) (r:=r) g.1.toWI h (g.2 _ (je7 ..));simp only[rowF]at a e|-;split at a
  .cases a
  .rename_i d;rw[if_neg d]at e|-;split at a
   .rename_i c;rw[if_pos c]at e|-;have f:=j d c;have l:=aeJ N _ _ f a e;have hd:=i (e.back (k.trans (kp_row N _ _ f))) c;simp only[Oz,tkQ_app,tkQ]at l hd|-;omega
   .rename_i c;exact absurd a c
def aeu{b:Bool} : ∀(os:List lI) (W:Wk),QW W os->(doneF W os).2=0->NoM b (doneF W os).1.L->Oz b (doneF W os).1 []<=Oz b W []
 | [],W,_,_,_=>qf0 _
 | o::os,W,f,e,d=>by
  have k:PW W [.op W.src o]:=⟨f.1,λr g=>by rw[qv]at g;subst g;exact f.2 o oe⟩;have j:=aeJ (b:=b) 26 W _ k;simp only[doneF]at e d|-;split at e
  .rename_i a;rw[if_pos a]at d|-;have c:=wayC.next f a
   have h:=j a (d.back (kp_all os _ c));have i:=aeu os _ c e d;simp only[Oz,tkQ,tkR]at h i|-;omega
  .rename_i a;exact absurd e a
def aex{L:Lg}{b:Bt} : uY (jo L b) 12=uY L 12:=wS 12 λk _=>by
 unfold jo;split
 .rename_i e;subst e;rfl
 .rfl
def ac5{b:Bool}{L:Lg}{f:Int}{x:Bt}(h:GL L f)(e:pg x)(c:NoM b (bn L f x).1):(uY (bn L f x).1 12:Int)<=uY L 12+RJ b (bn L f x).2.2.Ze:=by
 have z:RJ b 0=0:=by unfold RJ;split<;>rfl
 revert c;unfold bn
 by_cases a:mf L f x=0
 .rw[if_pos a]
  by_cases d:(doneF ⟨jo L x,f+x.eD,x.src,x.aC,0,0,0,[]⟩ x.ops).2=0
  .rw[if_pos d];intro c;have:=aeu (b:=b) x.ops _ (qF h e a) d c;simp only[Oz,tkQ,aex,z]at this;dsimp only;omega
  .rw[if_neg d];intro _;dsimp only;rw[aex,z];omega
 .rw[if_neg a];intro _;dsimp only;rw[z];omega
end
def aew(n:Nat):∀x y z:Bool,z=(x||y)->(x&&y)=false->(if z then n else 0)=(if x then n else 0)+(if y then n else 0):=by intro x y z h k;subst h;cases x<;>cases y<;>simp_all
section
variable {p q r:Int->Bool}(h:∀ a,r a=(p a||q a)) (hd:∀ a,(p a&&q a)=false)
include h hd
mutual
def tk_add:∀v:Va,@tkV ⟨r⟩ v = @tkV ⟨p⟩ v + @tkV ⟨q⟩ v
 | .mk k n a s c g f=>by
  simp only[tkV];rw[tks_add c];have d:=h a;have e:=hd a
  by_cases b:k=15
  .rw[if_pos b,if_pos b,if_pos b];have w:=aew n.toNat (p a) (q a) (r a) d e;show (if r a then n.toNat else 0)+_=(if p a then n.toNat else 0)+_+((if q a then n.toNat else 0)+_);omega
  .rw[if_neg b,if_neg b,if_neg b];omega
def tks_add:∀l:ao,@tkVs ⟨r⟩ l = @tkVs ⟨p⟩ l + @tkVs ⟨q⟩ l
 | []=>rfl
 | x::l=>by simp only[tkVs];rw[tk_add x,tks_add l];omega
end
def aee(L:Lg):∀n,@uY ⟨r⟩ L n = @uY ⟨p⟩ L n + @uY ⟨q⟩ L n
 | 0=>rfl
 | n+1=>by
  simp only[uY,VG];rw[aee L n];split
  .rw[tk_add h hd];omega
  .omega
end
@[reducible] def afk (i:Nat):Wt:=⟨λa=>decide (a=(i:Int))⟩
@[reducible] def Jy (m:Nat):Wt:=⟨λa=>decide (0<=a/\a<(m:Int))⟩
def abL (L:Lg) (i:Nat):Nat:=@uY (afk i) L 12
def abS (L:Lg):Nat->Nat
 | 0=>0
 | m+1=>abS L m+abL L m
def none_tk:∀v:Va,@tkV (Jy 0) v=0:=by
 have d:(∀v:Va,@tkV (Jy 0) v=0)/\∀l:ao,@tkVs (Jy 0) l=0:=by
  have g:∀a:Int,¬(@Wt.q (Jy 0) a):=λa e=>by have:=qf7 e;simp at this;omega
  have : ∀N:Nat,(∀v:Va,v.size<=N -> @tkV (Jy 0) v=0)/\∀l:ao,vsizes l<=N -> @tkVs (Jy 0) l=0:=λN=>by
   induction N with
   | zero =>
    have b:∀v:Va,v.size<=0 -> @tkV (Jy 0) v=0:=λv b=>by have:=qZ v;omega
    exact⟨b,λl c=>by
     cases l with
     | nil=>rfl
     | cons x l=>have:=qZ x;simp only[vsizes]at c;omega⟩
   | succ N f =>
    have b:∀v:Va,v.size<=N+1 -> @tkV (Jy 0) v=0:=λv b=>by have h:=eP v;rw[@zU (Jy 0) v,f.2 v.args od,if_neg (g _)];split<;>rfl
    refine⟨b,λl c=>?_⟩
    induction l with
    | nil=>rfl
    | cons x l i =>
     simp only[vsizes]at c;have:=qZ x;simp only[tkVs];rw[b x od,f.2 l od]
  exact⟨λv=>(this v.size).1 v (jj _),λl=>(this (vsizes l)).2 l (jj _)⟩
 exact d.1
def aaU(L:Lg):∀m,abS L m = @uY (Jy m) L 12
 | 0=>by
  have : ∀n,@uY (Jy 0) L n=0:=λn=>by
   induction n with
   | zero=>rfl
   | succ n b =>
    simp only[uY,VG];rw[b,none_tk];split<;>rfl
  rw[this];rfl
 | m+1=>by
  rw[abS,aaU L m,abL];refine (aee (p:=λa=>decide (0<=a/\a<(m:Int))) (q:=λa=>decide (a=(m:Int))) (r:=λa=>decide (0<=a/\a<((m+1:Nat):Int))) (λa=>?_) (λa=>?_) L 12).symm
  .rw[<-Bool.decide_or];exact qg7.2 od
  .rw[<-Bool.decide_and];exact zE od
def aen{L:Lg}{f:Int}{x:Bt}{i:Nat}(h:GL L f)(c:pg x)(hi:i<12)(hc:((bn L f x).1 i).is≠2\/mintsTs ((bn L f x).1 i).co=false):abL (bn L f x).1 i<=abL L i:=by
 have:=@ac5 (afk i) false L f x h c (λk _ b a=>by
  have e:(k:Int)=(i:Int):=qf7 b;obtain rfl:k=i:=od
  exact .inr (hc.resolve_left (λh=>h a)))
 have z:∀n,RJ false n=0:=λn=>rfl;rw[z]at this;unfold abL;omega
def aem{L:Lg}{f:Int}{x:Bt}(h:GL L f)(a:pg x):(abS (bn L f x).1 12:Int) - abS L 12<=(bn L f x).2.2.Ze:=by have:=@ac5 (Jy 12) true L f x h a (λ_ _ _ _=>.inl rfl);have z:∀n,RJ true n=n:=λn=>rfl;rw[z]at this;rw[aaU,aaU];omega
mutual
def tgV:Va->Int
 | .mk k n a s args ty cd=>if k=15 then n else Oo 0 args
def Oo (acc:Int):ao->Int
 | []=>acc
 | x::l=>Oo (if acc<tgV x then tgV x else acc) l
end
def aeM(v:Va):tgV v=if v.k=15 then v.n else Oo 0 v.args:=by cases v;rw[tgV];rfl
def tgs_ge:∀(l:ao) (acc:Int),acc<=Oo acc l/\∀x∈l,tgV x<=Oo acc l
 | [],acc=>⟨by rw[Oo];omega,λx d=>by cases d⟩
 | x::l,acc=>by
  rw[Oo];have⟨b,c⟩:=tgs_ge l (if acc<tgV x then tgV x else acc);refine⟨by split at b<;>split<;>omega,λy a=>?_⟩;rcases kl.1 a with rfl|a
  .split at b<;>split<;>omega
  .exact c y a
def afm[Wt]:∀(N:Nat) {T:Ty}{v:Va},v.size<=N->Fit T v->tgV v<=1073741824->tkV v<=1073741824*v.size:=λN=>by
 induction N with
 | zero=>intro T v m;have:=qZ v;omega
 | succ N q =>
  intro T v m h d;have⟨_,_,⟨g,r,f⟩,_⟩:=iO h;have j:∀{l:ao} {g:aw},vsizes l<=N->FitS g l->(∀x∈l,tgV x<=1073741824)->tkVs l<=1073741824*vsizes l:=by
   intro l
   induction l with
   | nil=>intro _ _ _ _;simp[tkVs]
   | cons x l i =>
    intro g p f d
    cases g with
    | nil=>exact f.elim
    | cons T g =>
     rw[vsizes]at p|-;have a:=q od f.1 (d x oe);have b:=i od f.2 (λy o=>d y (by simp[o]));rw[tkVs,Nat.mul_add];omega
  have e:=eP v;rw[aeM]at d;rw[zU]
  by_cases c:v.k=15
  .rw[if_pos c]at d;rw[if_pos c,C8 h ((pM h).symm.trans c)];split<;>omega
  .rw[if_neg c]at d;rw[if_neg c];have:=j od f (λx n=>by have:=(tgs_ge v.args 0).2 x n;omega);omega
def ael (T:Ty) (v:Va) (j:Nat) (U:Ty):Prop :=
 (T.t=9\/T.t=10)/\T.args=[U]\/T.t=11/\T.args[j]?=some U\/(T.t=12/\∃A B,T.args=[A,B]/\(v.n=0/\U=A\/v.n=1/\U=B))\/T.t=13/\U =.nd 11 T.args
def aeV{T:Ty}{v x:Va}{j:Nat}(h:Fit T v)(u:T.t≠15)(w:T.t≠8)(f:v.args[j]?=some x):∃U,Fit U x/\ael T v j U:=by
 have C:=(tO (je h)).1;have b:=ka f
 by_cases q:T.t=9
 .obtain⟨A,e,p|⟨y,p,a⟩⟩:=EW h q
  .rw[p]at b;cases b
  .rw[p,qv]at b;subst b;exact⟨A,a,.inl ⟨.inl q,e⟩⟩
 by_cases g:T.t=10
 .have⟨A,e,_,a⟩:=xG h g;exact⟨A,a x b,.inl ⟨.inr g,e⟩⟩
 by_cases i:T.t=11
 .have⟨A,B,y,z,e,o,r,s⟩:=uX h i;rw[o]at f
  match j,f with
  | 0,f=>cases f;exact⟨A,r,.inr (.inl ⟨i,by rw[e];rfl⟩)⟩
  | 1,f=>cases f;exact⟨B,s,.inr (.inl ⟨i,by rw[e];rfl⟩)⟩
  | j+2,f=>simp at f
 by_cases d:T.t=12
 .have⟨A,B,y,e,o,a⟩:=Xj h d;rw[o,qv]at b;subst b;rcases a with⟨n,a⟩|⟨n,a⟩
  .exact⟨A,a,.inr (.inr (.inl ⟨d,A,B,e,.inl ⟨n,rfl⟩⟩))⟩
  .exact⟨B,a,.inr (.inr (.inl ⟨d,A,B,e,.inr ⟨n,rfl⟩⟩))⟩
 by_cases k:T.t=13
 .have⟨A,B,e,_,a,_⟩:=Am h k;exact⟨_,a x b,.inr (.inr (.inr ⟨k,by rw[e]⟩))⟩
 have n:v.args=[]:=by
  by_cases m:T.t=14
  .have⟨_,_,_,_,e,_⟩:=Lm h m;exact e
  .have⟨_,_,⟨D,l,_⟩,_⟩:=iO h;have:=rE l;unfold bS at l;simp only at l;rw[if_neg w,oa,if_neg g,if_neg k,if_neg d,if_neg m,yU (je h) od]at l;split at l
   .rename_i c;exact jz c
   .cases l
 rw[n]at b;cases b
def aes{T U:Ty}{v:Va}{j:Nat}(c:storeT T)(hk:ael T v j U):storeT U:=by
 have⟨t,az⟩:=T;unfold storeT at c|-;rw[sW,qt]at c;have a:t≠14->ow Ap Kz az:=λb=>by simpa[Ap,b]using c.2
 simp only[ael,Ty.t,Ty.args]at hk;rw[yL,kd]at a;rcases hk with⟨h,rfl⟩|⟨h,d⟩|⟨h,A,B,rfl,⟨_,rfl⟩|⟨_,rfl⟩⟩|⟨h,rfl⟩
 .exact a od _ oe
 .exact a od _ (ka d)
 .exact a od _ oe
 .exact a od _ oe
 .rw[sW,yL,kd.2 (a od)];rfl
def tqS (T:Ty) (v:Va) (mk sm gr:Int) (j:Nat):St:=[((0,2),.of (iA mk)),((0,3),.of (.one (.p 3 0))),((0,4),.of (.one (.p 4 0))),((0,8),.of (iA sm)),((0,9),.of (iA gr)),((0,29),.of (qi v.args)),((0,30),lW (vasD v.args).length),((0,31),.of (jA j))]++(oC 3 0 [.d (.v (.i T.t)),.d (.s 2 (tysD T.args))]++oC 4 0 ((vaD v).map .d))
def tqQ (sm gr:Int):St:=[((0,8),.of (iA sm)),((0,9),.of (iA gr))]
abbrev tqL (S:St) (ex:Nat) (q:St):Prop:=vO prog f36.ntmps ⟨gF f36,S,ex,q⟩
abbrev TqH (T:Ty) (v:Va) (mk s g:Int):Prop:=Hd ⟨36,[tyA T,pF v,iA mk],.rz [iA s,iA g]⟩
def ae3{T U:Ty}{v x:Va}{j:Nat}{mk s g sm gr f d:Int}{ex:Nat}{q:St}(k:v.args[j]?=some x)(C:v.args.length<=20000000)(A:TqH U x mk s g)(hk:ael T v j U)(r:IntKind.i64.wrap (sm+s)=f)(u:(if gr<g then g else gr)=d)(hn:tqL (tqS T v mk f d (j+1)) ex q):tqL (tqS T v mk sm gr j) ex q:=by
 have B:=(qT.1 k).1;have E:=is_lt (a:=Int.ofNat j) (b:=((vasD v.args).length:Int)) oX;have G:=PT k;have H:=yY r;have I:=yY u;have J:mD (lW (IntKind.i64.wrap (Int.ofNat j+1))) (jA (j+1)):=yY (zF oe ov ov);clear r u k C B;have⟨t,az⟩:=T;have⟨m,l⟩:=U;have⟨N,O,M,R,P,Q,L⟩:=v;have⟨W,X,V,xz,Y,Z,S⟩:=x;simp only[ael,Ty.t,Ty.args,Va.n]at hk;have K:az[j]?=some (.nd m l)->OQ az j m l:=λh=>EK h;have F:=λ(y:Hints) {w:List Prop} (D:∀p∈w,p) o c=>LG ([(32,bA true),(34,.one (.e (vaD (.mk W X V xz Y Z S)) 0))]++y++[(75,iA f),(78,iA d),(79,jA (j+1))]) [⟨_,A⟩] hn (al E (al G (jX D (al H (al I (al J al0)))))) (pre:=tqS (.nd t az) (.mk N O M R P Q L) mk sm gr j) (h:=o) (hc:=c);rcases hk with⟨rfl|rfl,rfl⟩|⟨rfl,z⟩|⟨rfl,⟨_,_⟩,⟨_,_⟩,rfl,⟨rfl,i⟩|⟨rfl,i⟩⟩|⟨rfl,i⟩
 case' inr.inl=>exact F [(51,.one (.e (tyD (.nd m l)) 0))] (al (K z) al0) oA oA
 all_goals first|(cases i;exact F [] al0 oA oA)|exact F [] al0 oA oA
def ad8(a b:Int):IntKind.i64.wrap (IntKind.i64.wrap a+IntKind.i64.wrap b)=IntKind.i64.wrap (a+b):=by rw[yb,yb,yb,yb];omega
section
variable {mk:Int}
@[reducible] def mkQ (mk:Int):Wt:=⟨λa=>decide (a=mk)⟩
def sQ (mk:Int) (v:Va):Int:=IntKind.i64.wrap ((@tkV (mkQ mk) v:Nat):Int)
def aei{T:Ty}{v:Va}(d:v.args.length<=20000000)(hK:∀j x,v.args[j]?=some x->∃U,TqH U x mk (sQ mk x) (tgV x)/\ael T v j U):∀(i j S:Nat) (gr:Int),j+i=v.args.length->tqL (tqS T v mk (IntKind.i64.wrap (S:Int)) gr j) 2 (tqQ (IntKind.i64.wrap ((S + @tkVs (mkQ mk) (v.args.drop j):Nat):Int)) (Oo gr (v.args.drop j)))
 | 0,j,S,gr,h=>by have l:=wH (a:=Int.ofNat j) (b:=((vasD v.args).length:Int)) oX;rw[qb6 od];simp only[tkVs,Oo,qf3];generalize IntKind.i64.wrap (S:Int)=sm;have⟨o,p,n,s,q,r,m⟩:=v;exact xQ (e:=1) [(32,fA)] [] (al l al0)
 | i+1,j,S,gr,h=>by
  have c:j<v.args.length:=od
  have f:=qu c;rw[km c];generalize v.args[j]=x at *;have⟨U,g,k⟩:=hK j x f;simp only[tkVs,Oo];rw[<-qg2];refine ae3 f d g k ?_ rfl (aei d hK i (j+1) (S + @tkV (mkQ mk) x) _ od);unfold sQ;rw[ad8,jd0]
def H_tq:∀(N:Nat) {T:Ty}{v:Va},v.size<=N->N<=20000000->Fit T v->storeT T->TqH T v mk (sQ mk v) (tgV v):=λN=>by
 induction N with
 | zero=>intro T v B;have:=qZ v;omega
 | succ N C =>
  intro T v B D h c;have hk:=pM h;have G:=eP v;have F:=kS v.args;unfold sQ
  by_cases b:T.t=15
  .have⟨_,_,_,_,_,_,n0,n1⟩:=xH h b;have e:=@C8 (mkQ mk) T v h b;rw[@zU (mkQ mk) v,e,aeM,if_pos (hk.trans b),if_pos (hk.trans b)];have l:v.a=mk->IntKind.i64.wrap (((if @Wt.q (mkQ mk) v.a then v.n.toNat else 0)+0:Nat):Int)=v.n:=λd=>by
    rw[if_pos (show @Wt.q (mkQ mk) v.a from xb d),yb];omega
   have m:¬v.a=mk->IntKind.i64.wrap (((if @Wt.q (mkQ mk) v.a then v.n.toNat else 0)+0:Nat):Int)=0:=λd=>by rw[if_neg (show ¬@Wt.q (mkQ mk) v.a from λh=>d (qf7 h))];rfl
   by_cases d:v.a=mk
   .rw[l d];have o:jJ (!decide (v.a=mk)) false:=eT (by simp[d]);clear l m e;have⟨t,az⟩:=T;have⟨s,u,r,z,w,y,p⟩:=v;obtain rfl:t=15:=b;exact runT func36 [(21,bA false)] [] (al o al0)
   .rw[m d];have o:jJ (!decide (v.a=mk)) true:=eT (by simp[d]);clear l m e;have⟨t,az⟩:=T;have⟨s,u,r,z,w,y,p⟩:=v;obtain rfl:t=15:=b;exact runT func36 [(21,bA true)] [] (al o al0)
  .have f:T.t≠8:=by
    have⟨t,az⟩:=T;unfold storeT at c;rw[sW,qt]at c;have f:=c.1;simp only[Kz,jt]at f;exact f
   have g:=aei (mk:=mk) (T:=T) (v:=v) od (λj x i=>by have⟨U,E,hk⟩:=aeV h b f i;exact⟨U,C (by have:=fO (ka i);omega) od E (aes c hk),hk⟩) v.args.length 0 0 0 od
   rw[ja4,qb1]at g;have A:(if v.k=15 then (if @Wt.q (mkQ mk) v.a then v.n.toNat else 0)else 0)=0:=if_neg od;rw[@zU (mkQ mk) v,A,aeM,if_neg (show ¬v.k=15 by omega),qb1];have H:jJ (decide (T.t=15)) false:=eT (zE b);have I:IntKind.i64.wrap ((0:Nat):Int)=0:=rfl;rw[I]at g;generalize IntKind.i64.wrap ((@tkVs (mkQ mk) v.args:Nat):Int)=sm at g|-;generalize Oo 0 v.args=gr at g|-;clear h b f c hk G F C B A;have⟨t,az⟩:=T;have⟨s,u,r,z,w,y,p⟩:=v;exact Ce func36 [(17,fA)] [_] (by intro x i;rw[qv]at i;subst i;exact g) [] (wI (S:=tqS (.nd t az) (.mk s u r z w y p) mk 0 0 0) (q:=gF f36=gF f36) rfl (ps:=[jJ (decide (t=15)) false]) (al H al0))
end
def CR (L:Lg):Nat->Int
 | 0=>0
 | n+1=>if (L n).is=2 then (if CR L n<tgV (L n).val then tgV (L n).val else CR L n)else CR L n
def aeL{L:Lg} : ∀n,0<=CR L n/\∀k,k<n->(L k).is=2->tgV (L k).val<=CR L n
 | 0=>⟨qf0 0,λk c=>od⟩
 | n+1=>by
  have⟨a,b⟩:=aeL (L:=L) n;rw[CR];refine⟨by split;split<;>omega;exact a,λk c h=>?_⟩
  by_cases e:k=n
  .subst e;rw[if_pos h];split<;>omega
  .have:=b k od h;split
   .split<;>omega
   .exact this
def aef{L:Lg}{f:Int}[Wt](h:GL L f)(d:CR L 12<=1073741824):∀n,n<=12->uY L n<=3221225472000000*n
 | 0,_=>jj _
 | n+1,e=>by
  have i:=aef h d n od;rw[uY,VG];split
  .rename_i b;have c:=h.ac n od;have g:=c.ok.zv;have a:=c.whole;unfold iR at a;rw[oa,oa,if_pos b,qt]at a;have:=afm _ (jj _) (GN a.2).2.1 (Int.le_trans ((aeL 12).2 n od b) d);omega
  .omega
section
variable {L:Lg}{f mk s g sm gr sm2 gr2:Int}{j:Nat}{ex:Nat}{q:St}
def abQ (sm gr:Int):St:=[((0,6),.of (iA sm)),((0,7),.of (iA gr))]
def abX (L:Lg) (mk sm gr:Int) (j:Nat):St:=[((0,1),.of (iA mk)),((0,13),.of (.agg (asX L))),((0,14),.of (jA j))]++abQ sm gr
abbrev abH (S:St) (ex:Nat) (q:St):Prop:=vO prog f22.ntmps ⟨gF f22,S,ex,q⟩
def afs(a:j<12)(h:(L j).is≠2)(hn:abH (abX L mk sm gr (j+1)) ex q):abH (abX L mk sm gr j) ex q:=by
 have b:jJ (decide ((L j).is=2)) false:=eT (zE h);clear h;rcases bM a with rfl|rfl|rfl|rfl|rfl|rfl|rfl|rfl|rfl|rfl|rfl|rfl
 all_goals exact LG [(19,fA)] [] hn (al b al0)
def afg(d:j<12)(h:(L j).is=2)(c:TqH (L j).oh (L j).val mk s g)(a:IntKind.i64.wrap (sm+s)=sm2)(b:(if gr<g then g else gr)=gr2)(hn:abH (abX L mk sm2 gr2 (j+1)) ex q):abH (abX L mk sm gr j) ex q:=by
 have e:jJ (decide ((L j).is=2)) true:=eT (xb h);have f:=yY a;have i:=yY b;clear h a b;rcases bM d with rfl|rfl|rfl|rfl|rfl|rfl|rfl|rfl|rfl|rfl|rfl|rfl
 all_goals exact LG [(19,bA true),(31,iA sm2),(34,iA gr2)] [⟨_,c⟩] hn (al e (al f (al i al0)))
end
def ae7{L:Lg}{f mk:Int}(h:GL L f):∀d j:Nat,j+d=12->abH (abX L mk (IntKind.i64.wrap ((@uY (mkQ mk) L j:Nat):Int)) (CR L j) j) 2 (abQ (IntKind.i64.wrap ((@uY (mkQ mk) L 12:Nat):Int)) (CR L 12))
 | 0,j,e=>by
  obtain rfl:j=12:=od
  generalize IntKind.i64.wrap ((@uY (mkQ mk) L 12:Nat):Int)=sm;generalize CR L 12=gr;exact xQ (e:=1) [] [] al0
 | d+1,j,e=>by
  have b:=ae7 (mk:=mk) h d (j+1) od;simp only[uY,VG,CR]at b
  by_cases a:(L j).is=2
  .rw[if_pos a,if_pos a]at b;have k:=h.ac j od;have m:=k.ok.zv;have g:=k.whole;unfold iR at g;rw[oa,oa,if_pos a,qt]at g;have⟨⟨_,i⟩,l,_⟩:=GN g.2;have c:storeT (L j).oh:=by unfold tT at i;rw[qt]at i;exact i.2
   refine afg od a (H_tq (mk:=mk) _ (jj _) od l c) ?_ rfl b;unfold sQ;rw[ad8,jd0]
  .rw[if_neg a,if_neg a,qf3]at b;exact afs od a b
def ZR{L:Lg}{f mk:Int}(h:GL L f):Hd ⟨22,[lC L f,iA mk],.rz [iA (IntKind.i64.wrap ((@uY (mkQ mk) L 12:Nat):Int)),iA (CR L 12)]⟩:=by have a:=ae7 (mk:=mk) h 12 0 rfl;have c:abX L mk (IntKind.i64.wrap ((@uY (mkQ mk) L 0:Nat):Int)) (CR L 0) 0=abX L mk 0 0 0:=rfl;rw[c]at a;generalize IntKind.i64.wrap ((@uY (mkQ mk) L 12:Nat):Int)=sm at a|-;generalize CR L 12=gr at a|-;exact Ce func22 [] [_] (by intro x b;rw[qv]at b;subst b;exact a) [] (wI (S:=abX L mk 0 0 0) (q:=gF f22=gF f22) rfl (ps:=[]) al0)
abbrev MiH (l:aE):Prop:=Hd ⟨23,[CW l],aQ (mintsTs l)⟩
abbrev miL (S:St) (ex:Nat) (q:St):Prop:=vO prog f23.ntmps ⟨gF f23,S,ex,q⟩
def miS (l:aE) (j:Nat):St:=[((0,5),.of (CW l)),((0,6),lW (ndsD l).length),((0,7),.of (jA j))]
def aeY{l:aE}{x:Tr}{j:Nat}(w:l.length<=50000000)(o:l[j]?=some x)(b:MiH x.args0):(mintsT x->miL (miS l j) 1 [((0,2),.of (bA true))])/\(mintsT x=false->∀ex q,miL (miS l (j+1)) ex q->miL (miS l j) ex q):=by
 have r:=(qT.1 o).1;have g:mD (aQ (decide (Int.ofNat j<((ndsD l).length:Int)))) (bA true):=is_lt OF;have i:=WV o;have v:mD (lW (IntKind.i64.wrap (Int.ofNat j+1))) (jA (j+1)):=yY (zF oe ov ov);clear o r;have⟨k,n,p,s,a⟩:=x;simp only[Tr.args0]at b;rw[mintsT]
 by_cases c:k=2
 .have d:jJ (decide (k=2)) true:=eT (xb c)
  by_cases f:p=84
  .have m:jJ (decide (p=84)) true:=eT (xb f);refine⟨λ_=>?_,λh=>?_⟩
   .exact xQ (e:=0) [(8,bA true),(9,.one (.e (ndD (.nd k n p s a)) 0)),(13,bA true),(17,bA true)] [] (al g (al i (al d (al m al0))))
   .rw[xb ⟨c,f⟩]at h;cases h
  .have m:jJ (decide (p=84)) false:=eT (zE f);rw[zE (λh=>f h.2),jd3];clear c f;unfold MiH at b;cases t:mintsTs a<;>rw[t]at b
   .exact⟨λh=>(by cases h),λ_ ex q u=>LG [(8,bA true),(9,.one (.e (ndD (.nd k n p s a)) 0)),(13,bA true),(17,bA false),(24,jA (j+1))] [⟨_,b⟩] u (al g (al i (al d (al m (al v al0)))))⟩
   .exact⟨λ_=>xQ (e:=0) [(8,bA true),(9,.one (.e (ndD (.nd k n p s a)) 0)),(13,bA true),(17,bA false)] [⟨_,b⟩] (al g (al i (al d (al m al0)))),λh=>(by cases h)⟩
 .have d:jJ (decide (k=2)) false:=eT (zE c);rw[zE (λh=>c h.1),jd3];clear c;unfold MiH at b;cases t:mintsTs a<;>rw[t]at b
  .exact⟨λh=>(by cases h),λ_ ex q u=>LG [(8,bA true),(9,.one (.e (ndD (.nd k n p s a)) 0)),(13,bA false),(24,jA (j+1))] [⟨_,b⟩] u (al g (al i (al d (al v al0))))⟩
  .exact⟨λ_=>xQ (e:=0) [(8,bA true),(9,.one (.e (ndD (.nd k n p s a)) 0)),(13,bA false)] [⟨_,b⟩] (al g (al i (al d al0))),λh=>(by cases h)⟩
def aeB{l:aE}(b:l.length<=50000000)(H:∀x∈l,MiH x.args0):∀(u:aE) (j:Nat),l.drop j=u->miL (miS l j) (if mintsTs u then 1 else 2) (if mintsTs u then [((0,2),.of (bA true))]else [])
 | [],j,hd=>by
  have i:l.length<=j:=by have:=congrArg List.length hd;simp at this;omega
  exact xQ (e:=1) [(8,bA false)] [] (al (show mD (aQ (decide (Int.ofNat j<((ndsD l).length:Int)))) (bA false) from wH OF) al0)
 | x::u,j,hd=>by
  have⟨h,d,a⟩:=kX hd;have⟨f,g⟩:=aeY b d (H x (ka d));rw[mintsTs]
  cases c:mintsT x with
  | true=>rw[Bool.true_or];exact f c
  | false=>rw[jd3];exact g c _ _ (aeB b H u (j+1) a)
def H_mi:∀(N:Nat) (l:aE),sizes l<=N->N<=50000000->MiH l:=λN=>by
 induction N with
 | zero =>
  intro l d _;have b:=aeB (l:=l) (by have:=cB l;omega) (λx a=>by cases l with|nil=>cases a|cons y l=>have:=size_pos y;simp only[sizes]at d;omega) l 0 rfl;cases c:mintsTs l<;>rw[c]at b
  all_goals (unfold MiH;rw[c];exact Ce func23 [] [_] (by intro x a;rw[qv]at a;subst a;exact b) [] (wI (S:=miS l 0) (q:=gF f23=gF f23) rfl (ps:=[]) al0))
 | succ N e =>
  intro l d g;have b:=aeB (l:=l) (by have:=cB l;omega) (λx a=>e _ (by have:=size_mem a;have f:x.size=sizes x.args0+1:=(by cases x;simp[Tr.size,Tr.args0]);omega) od) l 0 rfl;cases c:mintsTs l<;>rw[c]at b
  all_goals (unfold MiH;rw[c];exact Ce func23 [] [_] (by intro x a;rw[qv]at a;subst a;exact b) [] (wI (S:=miS l 0) (q:=gF f23=gF f23) rfl (ps:=[]) al0))
