import Derived.Test.YtgfdimkbfnpepaaGreatKpZad
import Derived.Test.YtgfdimkbfnpepaaGreatKpZac
namespace Go.Proofs.YtgfdimkbfnpepaaGreat
set_option linter.all false
open Go.Proofs.Tryz
open Pe
def Tr.args0:Tr->List Tr
 | .nd _ _ _ _ l=>l
mutual
def tyD:Ty->List D
 | .nd t a=>[.v (.i t),.s 2 (tysD a)]
def tysD:List Ty->List (List D)
 | []=>[]
 | T::ts=>tyD T::tysD ts
end
mutual
def ndD:Tr->List D
 | .nd k n p s a=>[.v (.i k),.v (.i n),.v (.i p),.v (.string s),.s 5 (ndsD a)]
def ndsD:List Tr->List (List D)
 | []=>[]
 | T::ts=>ndD T::ndsD ts
end
def tysD_map:∀ts:List Ty,tysD ts=ts.map tyD
 | []=>rfl
 | T::ts=>by simp[tysD,tysD_map ts]
def ndsD_map:∀ts:List Tr,ndsD ts=ts.map ndD
 | []=>rfl
 | T::ts=>by simp[ndsD,ndsD_map ts]
def AA(T:Ty):(tyD T).length=2:=by cases T;rfl
def LJ(t:Tr):(ndD t).length=5:=by cases t;rfl
mutual
def okT:Ty->Prop
 | .nd t a=>bD t/\okTs a
def okTs:List Ty->Prop
 | []=>True
 | T::ts=>okT T/\okTs ts
end
mutual
def okN:Tr->Prop
 | .nd k n p s a=>(bD k/\bD n/\bD p/\s.size<=maxLen)/\okNs a
def okNs:List Tr->Prop
 | []=>True
 | T::ts=>okN T/\okNs ts
end
def okTs_at:∀{ts:List Ty},okTs ts ↔ ∀T∈ts,okT T
 | []=>by simp[okTs]
 | T::ts=>by simp[okTs,okTs_at (ts:=ts)]
def okNs_at:∀{ts:List Tr},okNs ts ↔ ∀T∈ts,okN T
 | []=>by simp[okNs]
 | T::ts=>by simp[okNs,okNs_at (ts:=ts)]
section
variable {ok:Nat->Prop}{w:World}
def qI{T:Ty}{v:Value}(h:aH ok w T v):okT T/\∃a c,v=bY T.t a T.args.length c/\fI ok w (.s 2 (tysD T.args)) (.slice a T.args.length c):=by
 induction h with
 | mk V K F G C L p =>
  rename_i t args a c;refine⟨⟨G,okTs_at.2 (λT A=>?_)⟩,a,c,rfl,?_⟩
  .obtain⟨i,E,rfl⟩:=ye A;exact (p i E).1
  .have l:(tysD args).length=args.length:=by simp[tysD_map]
   have m:fI ok w (.s 2 (tysD args)) (.slice a (tysD args).length c):=by
    have d:∀(i:Nat) (r:List D),(tysD args)[i]?=some r->∃h:i<args.length,r=tyD args[i]:=λi r e=>by rw[tysD_map,qb6,km]at e;obtain⟨T,k,rfl⟩:=e;obtain⟨h,rfl⟩:=jj.1 k;exact⟨h,rfl⟩
    refine .s (λi j=>((V i).cells[j]?).getD undef) od od (λi r e=>?_) (λi r j x k f=>?_) (λi r j x k f=>?_)
    .obtain⟨h,rfl⟩:=d i r e;exact AA _
    .obtain⟨h,rfl⟩:=d i r k;obtain⟨b,o,rfl,B,H,q,M,u,n,y,z⟩:=C i h;have J:j<2:=by have:=(jj.1 f).1;rwa [AA]at this
     refine⟨b,o,rfl,B,?_⟩;rw[n];rcases (show j=0\/j=1 by omega)with rfl|rfl
     .exact y
     .rw[show o+(i*2+1)=o+i*2+1 by omega];exact z
    .obtain⟨h,rfl⟩:=d i r k;obtain⟨_,q,u,n,g⟩:=p i h;rw[n];generalize args[i]=T at f g n;obtain⟨H,I⟩:=T;rcases j with _|_|j
     .simp only[tyD,kl,qk]at f;subst f;exact .v _
     .simp only[tyD,yd,kl,qk]at f;subst f;exact g
     .simp[tyD]at f
   rw[l]at m;exact m
def qV{ts:List Ty}{a:Option Addr}{V:Nat->Value}{c:Nat}(h:dw ok w ts a V)(f:ts.length<=c):okTs ts/\fI ok w (.s 2 (tysD ts)) (.slice a ts.length c):=by have:=qI (aH.of (t:=0) ⟨ov,ov⟩ h f);obtain⟨b,g,i,e,d⟩:=this;simp only[Go.Proofs.YtgfdimkbfnpepaaGreat.bY,Ty.t,Ty.args,qb3,qc1,xj,ke,true_and,and_true]at e;obtain⟨rfl,rfl⟩:=e;exact⟨b.2,d⟩
def rep_rowT:∀(N:Nat) {ts:List Ty}{a:Option Addr}{l c:Nat},tysizes ts<=N->okTs ts->fI ok w (.s 2 (tysD ts)) (.slice a l c)->l=ts.length/\ts.length<=c/\∃V,dw ok w ts a V:=λN=>by
 induction N with
 | zero =>
  intro ts a l c hN n h;obtain⟨E,F,U,e,D,H,I,p⟩:=fH h;have hz:ts=[]:=by
   cases ts with
   | nil=>rfl
   | cons T ts=>have:=Cz T;simp only[tysizes]at hN;omega
  subst hz;simp only[ke]at e;obtain⟨rfl,rfl,rfl⟩:=e;exact⟨rfl,D,λ_=>.i 0,dw.nil _ _ _ _⟩
 | succ N M =>
  intro ts a l c hN n h;obtain⟨E,F,U,e,D,H,I,p⟩:=fH h;have m:(tysD ts).length=ts.length:=by simp[tysD_map]
  simp only[ke]at e;obtain⟨rfl,rfl,rfl⟩:=e;have k:∀(i:Nat) (d:i<ts.length),(tysD ts)[i]?=some (tyD ts[i]):=λi d=>by rw[tysD_map,qb6,qt d];rfl
  have g:∀(i:Nat) (d:i<ts.length),∃v,rC ok w a i v/\aH ok w ts[i] v:=λi d=>by
   have u:ts[i]∈ts:=zj d;have hz:=jS u;have f:=okTs_at.1 n _ u;have q:=k i d;generalize ts[i]=T at u hz f q;obtain⟨t,j⟩:=T;obtain⟨⟨b,o,rfl,K,A⟩,O⟩:=p i _ 0 _ q rfl;obtain⟨⟨P,R,e,_,B⟩,y⟩:=p i _ 1 _ q rfl;simp only[qk,qb2,and_true]at e;obtain⟨rfl,rfl⟩:=e;obtain⟨z,C,_,G,_⟩:=fH y;rw[G]at y B;rw[bW O]at A;have x:tysizes j<=N:=by simp only[Ty.size]at hz;omega
   obtain⟨Q,L,V,J⟩:=M x f.2 y;have r:(tysD j).length=j.length:=by simp[tysD_map]
   refine⟨bY t z j.length C,⟨b,o,rfl,K,t,z,j.length,C,rfl,A,?_⟩,aH.of f.1 J L⟩;rw[<-r,qe0];exact B
  refine⟨m,od,λi=>if d:i<ts.length then (g i d).choose else undef,od,λi d=>?_,λi d=>?_⟩
  .simp only[d,dite_true];exact (g i d).choose_spec.1
  .simp only[d,dite_true];exact (g i d).choose_spec.2
def qL{T:Tr}{v:Value}(h:bI ok w T v):okN T/\∃k n p s a c,T =.nd k n p s T.args0/\v=af k n p s a T.args0.length c/\fI ok w (.s 5 (ndsD T.args0)) (.slice a T.args0.length c):=by
 induction h with
 | mk V X K M L N I Y y =>
  rename_i k n p s args a c W;refine⟨⟨⟨M,L,N,K⟩,okNs_at.2 (λT m=>?_)⟩,k,n,p,s,a,c,rfl,rfl,?_⟩
  .obtain⟨i,J,rfl⟩:=ye m;exact (y i J).1
  .have q:(ndsD args).length=args.length:=by simp[ndsD_map]
   have t:fI ok w (.s 5 (ndsD args)) (.slice a (ndsD args).length c):=by
    have f:∀(i:Nat) (r:List D),(ndsD args)[i]?=some r->∃h:i<args.length,r=ndD args[i]:=λi r e=>by rw[ndsD_map,qb6,km]at e;obtain⟨T,l,rfl⟩:=e;obtain⟨h,rfl⟩:=jj.1 l;exact⟨h,rfl⟩
    refine .s (λi j=>((V i).cells[j]?).getD undef) od od (λi r e=>?_) (λi r j x l d=>?_) (λi r j x l d=>?_)
    .obtain⟨h,rfl⟩:=f i r e;exact LJ _
    .obtain⟨h,rfl⟩:=f i r l;obtain⟨b,o,rfl,H,O,P,Q,R,z,l',A,u,B,C,E,F,G⟩:=I i h;have U:j<5:=by have:=(jj.1 d).1;rwa [LJ]at this
     refine⟨b,o,rfl,H,?_⟩;rw[u];rw[<-qe0];rcases (show j=0\/j=1\/j=2\/j=3\/j=4 by omega)with rfl|rfl|rfl|rfl|rfl
     .exact B
     .exact C
     .exact E
     .exact F
     .exact G
    .obtain⟨h,rfl⟩:=f i r l;obtain⟨_,O,P,Q,R,z,A,m,u,g⟩:=y i h;rw[u];generalize args[i]=T at d g u m;obtain⟨Z,n2,p2,s2,S⟩:=T;simp only[Tr.nd.injEq]at m;obtain⟨rfl,rfl,rfl,rfl,_⟩:=m;rcases j with _|_|_|_|_|j
     .simp only[ndD,kl,qk]at d;subst d;exact .v _
     .simp only[ndD,yd,kl,qk]at d;subst d;exact .v _
     .simp only[ndD,yd,kl,qk]at d;subst d;exact .v _
     .simp only[ndD,yd,kl,qk]at d;subst d;exact .v _
     .simp only[ndD,yd,kl,qk]at d;subst d;exact g
     .simp[ndD]at d
   rw[q]at t;exact t
def rep_rowN:∀(N:Nat) {ts:List Tr}{a:Option Addr}{l c:Nat},sizes ts<=N->okNs ts->fI ok w (.s 5 (ndsD ts)) (.slice a l c)->l=ts.length/\ts.length<=c/\∃V,cK ok w ts a V:=λN=>by
 induction N with
 | zero =>
  intro ts a l c hN u h;obtain⟨P,Q,U,e,M,R,S,j⟩:=fH h;have hz:ts=[]:=by
   cases ts with
   | nil=>rfl
   | cons T ts=>have:=size_pos T;simp only[sizes]at hN;omega
  subst hz;simp only[ke]at e;obtain⟨rfl,rfl,rfl⟩:=e;exact⟨rfl,M,λ_=>.i 0,cK.nil _ _ _ _⟩
 | succ N Y =>
  intro ts a l c hN u h;obtain⟨P,Q,U,e,M,R,S,j⟩:=fH h;have t:(ndsD ts).length=ts.length:=by simp[ndsD_map]
  simp only[ke]at e;obtain⟨rfl,rfl,rfl⟩:=e;have r:∀(i:Nat) (d:i<ts.length),(ndsD ts)[i]?=some (ndD ts[i]):=λi d=>by rw[ndsD_map,qb6,qt d];rfl
  have g:∀(i:Nat) (d:i<ts.length),∃v,ky ok w a i v/\bI ok w ts[i] v:=λi d=>by
   have O:ts[i]∈ts:=zj d;have hz:(ts[i]).size<=sizes ts:=by have:=gH ts i d;have:=jF ts (i+1);omega
   have f:=okNs_at.1 u _ O;have m:=r i d;generalize ts[i]=T at O hz f m;obtain⟨k,n,p,s,q⟩:=T;obtain⟨⟨b,o,rfl,W,z⟩,Z⟩:=j i _ 0 _ m rfl;obtain⟨⟨b1,o1,J,_,A⟩,r1⟩:=j i _ 1 _ m rfl;obtain⟨⟨b2,o2,y,_,B⟩,r2⟩:=j i _ 2 _ m rfl;obtain⟨⟨b3,o3,K,_,C⟩,r3⟩:=j i _ 3 _ m rfl;obtain⟨⟨b4,o4,L,_,x⟩,G⟩:=j i _ 4 _ m rfl;simp only[qk,qb2,and_true]at J y K L;obtain⟨rfl,rfl⟩:=J;obtain⟨rfl,rfl⟩:=y;obtain⟨rfl,rfl⟩:=K;obtain⟨rfl,rfl⟩:=L;obtain⟨H,I,_,y,_⟩:=fH G;rw[y]at G x;rw[bW Z]at z;rw[bW r1]at A;rw[bW r2]at B;rw[bW r3]at C;have F:sizes q<=N:=by simp only[Tr.size]at hz;omega
   obtain⟨hl,X,V,D⟩:=Y F f.2 G;have E:(ndsD q).length=q.length:=by simp[ndsD_map]
   rw[E]at x;simp only[<-qe0]at z A B C x;exact⟨af k n p s H q.length I,⟨b,o,rfl,W,k,n,p,s,H,q.length,I,rfl,z,A,B,C,x⟩,bI.mk (hk:=X) V D.1 f.1.2.2.2 f.1.1 f.1.2.1 f.1.2.2.1 D.2.1 D.2.2⟩
  refine⟨t,od,λi=>if d:i<ts.length then (g i d).choose else undef,od,λi d=>?_,λi d=>?_⟩
  .simp only[d,dite_true];exact (g i d).choose_spec.1
  .simp only[d,dite_true];exact (g i d).choose_spec.2
end
def dZ (ts:List Ty):A1:=.one (.d (.s 2 (tysD ts)))
def tyA:Ty->A1
 | .nd t a=>.agg [.d (.v (.i t)),.d (.s 2 (tysD a))]
def CW (ts:List Tr):A1:=.one (.d (.s 5 (ndsD ts)))
def ndA:Tr->A1
 | .nd k n p s a=>.agg [.d (.v (.i k)),.d (.v (.i n)),.d (.v (.i p)),.d (.v (.string s)),.d (.s 5 (ndsD a))]
def iA (n:Int):A1:=.one (.d (.v (.i n)))
def bA (b:Bool):A1:=.one (.d (.v (.bool b)))
def nilA:A1:=.one (.d (.s 0 []))
abbrev Hd (s:Sp):Prop:=Holds prog s
abbrev HL:=List { s:Sp // Hd s }
def mixed:prog.follows .mixedOrders=true:=oA
def asked:Option (AV×List Sp×Obl)->Option (AV×List Sp×List Prop×List Prop)
 | some (v,C,ob)=>some (v,C,(ob.filter λp=>!p.1).map (·.2),(ob.filter λp=>p.1).map (·.2))
 | none=>none
def YJ[pq](d:Mv){f:FuncId}{fn:Func}(q:prog.funcs[f]?=some fn)(T:Hints)(L:List Lp)(n:∀l∈L,vO prog fn.ntmps l)(g:List { s:Sp // Holds prog s }){args:List A1}{res:AV}{ob:List Prop}
 (h:asked (Wd d.p prog fn (fn.body.getD .skip) T L (g.map (·.1)) args)=some (res,[],(g.map (·.1)).map (λs=>s.args=s.args),ob)) (hob:∀p∈ob,p)
 (b:fn.body.isSome=true:=by kernel_rfl) (hn:(fn.name == "runtime.NumGoroutine")=false:=by kernel_rfl):Holds prog (@Sp.mk f args res d):=by
 obtain⟨c,i⟩:=ja2.1 b;rw[i]at h;unfold asked at h;split at h<;>try (cases h;done)
 rename_i v C a o;simp only[qk,zd]at h;obtain⟨rfl,rfl,k,m⟩:=h;refine holds mixed q i hn d T L _ (λs r=>by obtain⟨x,_,rfl⟩:=qa7.1 r;exact x.2) n o (λp j=>?_)
 cases b:p.1 with
 | false =>
  have : p.2∈(a.filter λp=>!p.1).map (·.2):=qa7.2 ⟨p,jc3.2 ⟨j,by simp[b]⟩,rfl⟩;rw[k]at this;obtain⟨s,_,e⟩:=qa7.1 this;exact e ▸ trivial
 | true =>
  have : p.2∈(a.filter λp=>p.1).map (·.2):=qa7.2 ⟨p,jc3.2 ⟨j,b⟩,rfl⟩;rw[m]at this;exact hob _ this
def Ce{f:FuncId}{a:Func}(e:prog.funcs[f]?=some a)(T:Hints)(L:List Lp)(d:∀l∈L,vO prog a.ntmps l)(c:HL){args:List A1}{b:AV}{ob:List Prop}
 (hob:∀p∈ob,p) (h:asked (evF prog a (a.body.getD .skip) T L (c.map (·.1)) args)=some (b,[],(c.map (·.1)).map (λs=>s.args=s.args),ob):=by kernel_rfl)
 (hb:a.body.isSome=true:=by kernel_rfl) (hn:(a.name == "runtime.NumGoroutine")=false:=by kernel_rfl):Hd ⟨f,args,b⟩:=YJ mv0 e T L d c h hob hb hn
def runT{f:FuncId}{a:Func}(d:prog.funcs[f]?=some a)(T:Hints)(c:HL){args:List A1}{b:AV}{ob:List Prop}
 (hob:∀p∈ob,p) (h:asked (evF prog a (a.body.getD .skip) T [] (c.map (·.1)) args)=some (b,[],(c.map (·.1)).map (λs=>s.args=s.args),ob):=by kernel_rfl)
 (hb:a.body.isSome=true:=by kernel_rfl) (hn:(a.name == "runtime.NumGoroutine")=false:=by kernel_rfl):Hd ⟨f,args,b⟩:=Ce d T [] ot c hob h hb hn
def aF{f:FuncId}{a:Func}(d:prog.funcs[f]?=some a)(c:HL){args:List A1}{b:AV}
 (h:asked (evF prog a (a.body.getD .skip) [] [] (c.map (·.1)) args)=some (b,[],(c.map (·.1)).map (λs=>s.args=s.args),[]):=by kernel_rfl)
 (hb:a.body.isSome=true:=by kernel_rfl) (hn:(a.name == "runtime.NumGoroutine")=false:=by kernel_rfl):Hd ⟨f,args,b⟩:=runT d [] c ot h hb hn
def Pe.Holds.conv{f:FuncId}{b:List A1}{c:AV}(h:Hd ⟨f,b,c⟩){args:List A1}{a:AV}(j:∀ok w vs,dU (gm (λ_=>none) ok w) args vs->dU (gm (λ_=>none) ok w) b vs)(k:∀ok w v,iZ (λ_=>none) ok w c v->iZ (λ_=>none) ok w a v):Hd ⟨f,args,a⟩ :=
 ⟨h.OT,λok w vs l=>(h.run ok w vs (j ok w vs l)).mono λe m ⟨g,v,d,i⟩=>⟨g,v,d,k _ _ _ i⟩⟩
def gG{ok:Nat->Prop}{w:World}{n m:Nat}{v:Value}(h:fI ok w (.s n []) v)(e:m≠0:=by decide):fI ok w (.s m []) v:=by obtain⟨a,c,U,rfl,b,d,_⟩:=fH h;exact .s U b d ot ot ot (λh=>absurd h e)
def bK{f:FuncId}{a:Func}(g:prog.funcs[f]?=some a)(d:a.body.isSome=true:=by kernel_rfl)(h:(a.name == "runtime.NumGoroutine")=false:=by kernel_rfl):∀(args:Array Value) (w:World),(callFunc f args).run prog w =.ok (.enter f args) w:=λargs w=>by
 obtain⟨c,e⟩:=ja2.1 d
 have b:¬a.name = "runtime.NumGoroutine":=by simpa using h
 simp[callFunc,g,b,e,Result.andThen]
mutual
def okT_formed:∀(T:Ty) (d:Nat),j5 d T=true->okT T
 | .nd t a,d,h=>by simp only[j5,qu,jH,ki]at h;exact⟨⟨od,od⟩,okTs_formed a (d+1) h.2⟩
def okTs_formed:∀(l:List Ty) (d:Nat),ig d l=true->okTs l
 | [],_,_=>trivial
 | T::l,d,h=>by simp only[ig,qu]at h;exact⟨okT_formed T d h.1,okTs_formed l d h.2⟩
end
def oM{T:Ty}(h:zt T=true):okT T:=by simp only[zt,qu]at h;exact okT_formed T 1 h.1.1
def mf{s:List Ty}(h:s.all zt=true):okTs s:=okTs_at.2 λT a=>oM (zr.1 h T a)
def jC{ok:Nat->Prop}{w:World}{T:Ty}{v:Value}(hk:okT T)(h:gm (λ_=>none) ok w (tyA T) v):aH ok w T v:=by
 obtain⟨t,k⟩:=T;obtain⟨j,rfl,h⟩:=h
 match j,h with
 | [x,y],⟨d,b,_⟩ =>
  have e:=bW d;obtain⟨a,c,U,rfl,_⟩:=fH b;obtain⟨i,g,V,f⟩:=rep_rowT _ (qv _) hk.2 b;subst e;rw[i];exact aH.of hk.1 f g
def jM{f:FuncId}{b:Bool}{args:List A1}(a:∀(args:Array Value) (w:World),(callFunc f args).run prog w =.ok (.enter f args) w)(h:∀ok w vs,dU (gm (λ_=>none) ok w) args vs->Calls prog f vs.toArray w λe w'=>e =.returned (.bool b)/\w.grownBy w' none):Hd ⟨f,args,aQ b⟩ :=
 ⟨a,λok w vs d=>(h ok w vs d).mono (by rintro e w' ⟨rfl,c⟩;exact⟨c,_,rfl,fI.v _⟩)⟩
def jR{ok:Nat->Prop}{w:World}{ts:List Ty}{n:Nat}{v:Value}(hk:okTs ts)(g:n=2\/ts=[])(h:fI ok w (.s n (tysD ts)) v):∃a c V,v =.slice a ts.length c/\ts.length<=c/\dw ok w ts a V:=by
 have h:fI ok w (.s 2 (tysD ts)) v:=by
  rcases g with rfl|rfl
  .exact h
  .exact gG h
 obtain⟨a,c,U,e,_⟩:=fH h;subst e;obtain⟨f,d,V,b⟩:=rep_rowT _ (qv _) hk h;exact⟨a,c,V,by rw[f],d,b⟩
def oK{ok:Nat->Prop}{w:World}{t:Tr}{u:Value}(b:okN t)(l:gm (λ_=>none) ok w (ndA t) u):bI ok w t u:=by
 obtain⟨k,n,p,s,r⟩:=t;obtain⟨q,rfl,h⟩:=l
 match q,h with
 | [v,x,y,z,A],⟨f,g,i,j,e,_⟩ =>
  obtain⟨a,c,U,rfl,_⟩:=fH e;obtain⟨o,m,V,d⟩:=rep_rowN _ (qv _) b.2 e;rw[bW f,bW g,bW i,bW j,o];exact bI.mk (hk:=m) V d.1 b.1.2.2.2 b.1.1 b.1.2.1 b.1.2.2.1 d.2.1 d.2.2
def uI{ok:Nat->Prop}{w:World}{l:List Tr}{a:Option Addr}{V:Nat->Value}{c:Nat}(h:cK ok w l a V)(d:l.length<=c):fI ok w (.s 5 (ndsD l)) (.slice a l.length c):=by have:=qL (bI.mk (hk:=d) (k:=0) (n:=0) (p:=0) (s:=⟨#[]⟩) V h.1 (kB _) ⟨ov,ov⟩ ⟨ov,ov⟩ ⟨ov,ov⟩ h.2.1 h.2.2);obtain⟨_,k,n,p,s,f,g,_,e,b⟩:=this;simp only[af,Tr.args0,qb3,qc1,xj,ke,true_and,and_true]at e;obtain⟨_,_,_,_,rfl,rfl⟩:=e;exact b
def Fw{ok:Nat->Prop}{w:World}{l:List Tr}{a:Option Addr}{V:Nat->Value}(h:cK ok w l a V):okNs l:=okNs_at.2 λt c=>by obtain⟨i,b,rfl⟩:=ye c;exact (qL (h.2.2 i b)).1
mutual
def vaD:Va->List D
 | .mk k n a s args types code=>[.v (.i k),.v (.i n),.v (.i a),.v (.string s),.s 7 (vasD args),.s 2 (tysD types),.s 5 (ndsD code)]
def vasD:List Va->List (List D)
 | []=>[]
 | x::xs=>vaD x::vasD xs
end
def vasD_map:∀l:List Va,vasD l=l.map vaD
 | []=>rfl
 | x::l=>by simp[vasD,vasD_map l]
def Mi(x:Va):(vaD x).length=7:=by cases x;rfl
mutual
def okV:Va->Prop
 | .mk k n a s args types code=>(bD k/\bD n/\bD a/\s.size<=maxLen)/\okVs args/\okTs types/\okNs code
def okVs:List Va->Prop
 | []=>True
 | x::xs=>okV x/\okVs xs
end
def okVs_at:∀{l:List Va},okVs l ↔ ∀x∈l,okV x
 | []=>by simp[okVs]
 | x::l=>by simp[okVs,okVs_at (l:=l)]
section
variable {ok:Nat->Prop}{w:World}
def y9{x:Va}{v:Value}(h:aA ok w x v):∃f ac ta tc na nc,v=bg x.k x.n x.a x.s f x.args.length ac ta x.types.length tc na x.code.length nc/\fI ok w (.s 7 (vasD x.args)) (.slice f x.args.length ac)/\fI ok w (.s 2 (tysD x.types)) (.slice ta x.types.length tc)/\fI ok w (.s 5 (ndsD x.code)) (.slice na x.code.length nc):=by
 induction h with
 | mk V X W hl R hs ik iN ia O hN Q hr S =>
  rename_i k n a s args types code f ta na ac tc nc m;refine⟨f,ac,ta,tc,na,nc,rfl,?_,(qV O m.2).2,uI hN m.1⟩;have l:(vasD args).length=args.length:=KK
  have p:fI ok w (.s 7 (vasD args)) (.slice f (vasD args).length ac):=by
   have d:∀(i:Nat) (r:List D),(vasD args)[i]?=some r->∃h:i<args.length,r=vaD args[i]:=λi r e=>by rw[vasD_map,qb6,km]at e;obtain⟨T,g,rfl⟩:=e;obtain⟨h,rfl⟩:=jj.1 g;exact⟨h,rfl⟩
   refine .s (λi j=>((V i).cells[j]?).getD undef) od od (λi r e=>?_) (λi r j x g c=>?_) (λi r j x g c=>?_)
   .obtain⟨h,rfl⟩:=d i r e;exact Mi _
   .obtain⟨h,rfl⟩:=d i r g;obtain⟨b,o,rfl,P,k',n',Y,s',t,G,u,A,jJ,B,y,U,z,q,H,I,J,K,L,M,N⟩:=Q i h;have hj:j<7:=by have:=(jj.1 c).1;rwa [Mi]at this
    refine⟨b,o,rfl,P,?_⟩;rw[q];rw[<-qe0];rcases (show j=0\/j=1\/j=2\/j=3\/j=4\/j=5\/j=6 by omega)with rfl|rfl|rfl|rfl|rfl|rfl|rfl
    .exact H
    .exact I
    .exact J
    .exact K
    .exact L
    .exact M
    .exact N
   .obtain⟨h,rfl⟩:=d i r g;obtain⟨t,u,A,B,y,z,q,C,E,F⟩:=S i h;rw[q];generalize args[i]=T at c q C E F;obtain⟨k2,n2,Z,s2,az,tz,cz⟩:=T;rcases j with _|_|_|_|_|_|_|j
    .simp only[vaD,kl,qk]at c;subst c;exact .v _
    .simp only[vaD,yd,kl,qk]at c;subst c;exact .v _
    .simp only[vaD,yd,kl,qk]at c;subst c;exact .v _
    .simp only[vaD,yd,kl,qk]at c;subst c;exact .v _
    .simp only[vaD,yd,kl,qk]at c;subst c;exact C
    .simp only[vaD,yd,kl,qk]at c;subst c;exact E
    .simp only[vaD,yd,kl,qk]at c;subst c;exact F
    .simp[vaD]at c
  rw[l]at p;exact p
def pF (x:Va):A1:=.agg [.d (.v (.i x.k)),.d (.v (.i x.n)),.d (.v (.i x.a)),.d (.v (.string x.s)),.d (.s 7 (vasD x.args)),.d (.s 2 (tysD x.types)),.d (.s 5 (ndsD x.code))]
def FJ{x:Va}{v:Value}(h:aA ok w x v):gm (λ_=>none) ok w (pF x) v:=by obtain⟨i,j,o,p,l,m,rfl,e,f,g⟩:=y9 h;obtain⟨k,n,a,s,c,b,d⟩:=x;exact⟨_,rfl,.v _,.v _,.v _,.v _,e,f,g,trivial⟩
def BC{x:Va}{v:Value}(h:aA ok w x v):okV x:=by
 induction h with
 | mk V m l o d e k f g a hN n p j =>
  rename_i b;exact⟨⟨k,f,g,e⟩,okVs_at.2 (λT a=>by obtain⟨i,c,rfl⟩:=ye a;exact j i c),(qV a b.2).1,Fw hN⟩
def rep_rowV:∀(N:Nat) {ts:List Va}{a:Option Addr}{l c:Nat},vsizes ts<=N->okVs ts->fI ok w (.s 7 (vasD ts)) (.slice a l c)->l=ts.length/\ts.length<=c/\∃V,aT ok w ts a V:=λN=>by
 induction N with
 | zero =>
  intro ts a l c hN u h;obtain⟨a',c',U,e,h1,h2,h3,f⟩:=fH h;have hz:ts=[]:=by
   cases ts with
   | nil=>rfl
   | cons T ts=>have:=eP T;simp only[vsizes]at hN;omega
  subst hz;simp only[ke]at e;obtain⟨rfl,rfl,rfl⟩:=e;exact⟨rfl,h1,λ_=>.i 0,kB _,λi d=>absurd d ot,λi d=>absurd d ot⟩
 | succ N ih =>
  intro ts a l c hN u h;obtain⟨a',c',U,e,h1,h2,h3,f⟩:=fH h;have r:(vasD ts).length=ts.length:=KK
  simp only[ke]at e;obtain⟨rfl,rfl,rfl⟩:=e;have m:∀(i:Nat) (d:i<ts.length),(vasD ts)[i]?=some (vaD ts[i]):=λi d=>by rw[vasD_map,qb6,qt d];rfl
  have t:∀(l:List Va) (x:Va),x∈l->x.size<=vsizes l:=λl=>by
   induction l with
   | nil=>intro x z;cases z
   | cons y l Z =>
    intro x z;simp only[vsizes];rcases xb.1 z with rfl|z
    .omega
    .have:=Z x z;omega
  have j:∀(i:Nat) (d:i<ts.length),∃v,AX ok w a i v/\aA ok w ts[i] v:=λi d=>by have Y:ts[i]∈ts:=zj d;have hz:=t ts _ Y;have q:=okVs_at.1 u _ Y;have g:=m i d;generalize ts[i]=T at Y hz q g;obtain⟨k,n,p,s,A,J,H⟩:=T;obtain⟨⟨b,o,rfl,hb,K⟩,r0⟩:=f i _ 0 _ g rfl;obtain⟨⟨b1,o1,e1,_,L⟩,r1⟩:=f i _ 1 _ g rfl;obtain⟨⟨b2,o2,e2,_,M⟩,r2⟩:=f i _ 2 _ g rfl;obtain⟨⟨b3,o3,e3,_,O⟩,r3⟩:=f i _ 3 _ g rfl;obtain⟨⟨b4,o4,E,_,B⟩,r4⟩:=f i _ 4 _ g rfl;obtain⟨⟨b5,o5,F,_,C⟩,r5⟩:=f i _ 5 _ g rfl;obtain⟨⟨b6,o6,G,_,D⟩,r6⟩:=f i _ 6 _ g rfl;simp only[qk,qb2,and_true]at e1 e2 e3 E F G;obtain⟨rfl,rfl⟩:=e1;obtain⟨rfl,rfl⟩:=e2;obtain⟨rfl,rfl⟩:=e3;obtain⟨rfl,rfl⟩:=E;obtain⟨rfl,rfl⟩:=F;obtain⟨rfl,rfl⟩:=G;obtain⟨aa,ac,_,E,_⟩:=fH r4;obtain⟨ta,tc,_,F,_⟩:=fH r5;obtain⟨na,nc,_,G,_⟩:=fH r6;rw[E]at r4 B;rw[F]at r5 C;rw[G]at r6 D;rw[bW r0]at K;rw[bW r1]at L;rw[bW r2]at M;rw[bW r3]at O;obtain⟨I,q2,q3,q4⟩:=q;simp only[Va.size]at hz;obtain⟨_,S,V,P⟩:=ih od q2 r4;obtain⟨_,W,VT,R⟩:=rep_rowT _ (qv _) q3 r5;obtain⟨_,X,VN,Q⟩:=rep_rowN _ (qv _) q4 r6;rw[show (vasD A).length=A.length by simp[vasD_map]]at B;rw[show (tysD J).length=J.length by simp[tysD_map]]at C;rw[show (ndsD H).length=H.length by simp[ndsD_map]]at D;simp only[<-qe0]at K L M O B C D;exact⟨bg k n p s aa A.length ac ta J.length tc na H.length nc,⟨b,o,rfl,hb,k,n,p,s,aa,A.length,ac,ta,J.length,tc,na,H.length,nc,rfl,K,L,M,O,B,C,D⟩,aA.mk (hnk:=⟨X,W⟩) V VT VN P.1 S I.2.2.2 I.1 I.2.1 I.2.2.1 R Q P.2.1 P.2.2⟩
  refine⟨r,od,λi=>if d:i<ts.length then (j i d).choose else undef,od,λi d=>?_,λi d=>?_⟩
  .simp only[d,dite_true];exact (j i d).choose_spec.1
  .simp only[d,dite_true];exact (j i d).choose_spec.2
end
def qi (l:List Va):A1:=.one (.d (.s 7 (vasD l)))
def lV{ok:Nat->Prop}{w:World}{l:List Va}{n:Nat}{v:Value}(hk:okVs l)(f:n=7\/l=[])(h:fI ok w (.s n (vasD l)) v):∃a c V,v =.slice a l.length c/\l.length<=c/\aT ok w l a V:=by
 have h:fI ok w (.s 7 (vasD l)) v:=by
  rcases f with rfl|rfl
  .exact h
  .exact gG h
 obtain⟨a,c,U,e,_⟩:=fH h;subst e;obtain⟨g,d,V,b⟩:=rep_rowV _ (qv _) hk h;exact⟨a,c,V,KK,d,b⟩
def b64 (n:Int):Bool:=decide (-9223372036854775808<=n)&&decide (n<9223372036854775808)
def i64{n:Int}(h:b64 n=true:=by rfl):bD n:=by unfold b64 at h;rw[qu,ki,ki]at h;unfold bD;omega
def xU{ok:Nat->Prop}{w:World}{l:List Tr}{n:Nat}{v:Value}(hk:okNs l)(f:n=5\/l=[])(h:fI ok w (.s n (ndsD l)) v):∃a c V,v =.slice a l.length c/\l.length<=c/\cK ok w l a V:=by
 have h:fI ok w (.s 5 (ndsD l)) v:=by
  rcases f with rfl|rfl
  .exact h
  .exact gG h
 obtain⟨a,c,U,e,_⟩:=fH h;subst e;obtain⟨g,d,V,b⟩:=rep_rowN _ (qv _) hk h;exact⟨a,c,V,by simp[ndsD_map],d,b⟩
def mR{ok:Nat->Prop}{w:World}{x:Va}{v:Value}(hk:okV x)(h:gm (λ_=>none) ok w (pF x) v):aA ok w x v:=by
 obtain⟨k,n,a,s,args,types,code⟩:=x;obtain⟨F,rfl,h⟩:=h
 match F,h with
 | [M,N,O,P,Q,R,S],⟨y,z,A,B,C,D,E,_⟩ =>
  have m:=bW y;have o:=bW z;have p:=bW A;have q:=bW B;subst m o p q;obtain⟨b,r,t,u⟩:=hk;obtain⟨G,H,V,rfl,f,c⟩:=lV r (.inl rfl) C;obtain⟨K,L,l,rfl,g,e⟩:=jR t (.inl rfl) D;obtain⟨I,J,j,rfl,i,d⟩:=xU u (.inl rfl) E;exact aA.mk (hnk:=⟨i,g⟩) V l j c.1 f b.2.2.2 b.1 b.2.1 b.2.2.1 e d c.2.1 c.2.2
def yu{ok:Nat->Prop}{w:World}{l:List Va}{a:Option Addr}{c:Nat}{V:Nat->Value}(h:aT ok w l a V)(f:l.length<=c):fI ok w (.s 7 (vasD l)) (.slice a l.length c):=by obtain⟨p,q,m,o,g,i,e,j,_⟩:=y9 (aA.mk (hnk:=⟨kB _,kB _⟩) (k:=0) (n:=0) (a:=0) (s:=⟨#[]⟩) (types:=[]) (code:=[]) (ta:=none) (na:=none) (nc:=0) (tc:=0) V V V h.1 f ov i64 i64 i64 (dw.nil _ _ _ _) (cK.nil _ _ _ _) h.2.1 h.2.2);simp only[bg,qb3,qc1,xj,ke,and_true]at e;obtain⟨_,_,_,_,⟨b,_,d⟩,_⟩:=e;subst b d;exact j
def TF (post:St):Option (Nat×St×List Sp×Obl)->Option (Nat×List Sp×List Prop×List Prop×List (Option AV))
 | some (e,σ,C,ob)=>if (get σ (1000001,0)).isNone=true then some (e,C,(ob.filter λp=>!p.1).map (·.2),(ob.filter λp=>p.1).map (·.2),post.map λx=>get σ x.1)else none
 | none=>none
def Ll{post:St}{r:Option (Nat×St×List Sp×Obl)}{e:Nat}{g:HL}{ob:List Prop}(h:TF post r=some (e,[],(g.map (·.1)).map (λs=>s.args=s.args),ob,post.map λx=>some x.2))(c:∀p∈ob,p) :
 ∃σ a,r=some (e,σ,[],a)/\(∀p∈a,p.2)/\(∀x∈post,get σ x.1=some x.2)/\(get σ (1000001,0)).isNone=true:=by
 unfold TF at h;split at h<;>try (cases h;done)
 rename_i m σ C a;split at h<;>try (cases h;done)
 rename_i b;simp only[qk,zd]at h;obtain⟨rfl,rfl,i,j,k⟩:=h;refine⟨σ,a,rfl,λp f=>?_,λx l=>?_,b⟩
 .cases d:p.1 with
  | false =>
   have : p.2∈(a.filter λp=>!p.1).map (·.2):=qa7.2 ⟨p,jc3.2 ⟨f,by simp[d]⟩,rfl⟩;rw[i]at this;obtain⟨s,_,e⟩:=qa7.1 this;exact e ▸ trivial
  | true =>
   have : p.2∈(a.filter λp=>p.1).map (·.2):=qa7.2 ⟨p,jc3.2 ⟨f,d⟩,rfl⟩;rw[j]at this;exact c _ this
 .exact List.map_inj_left.1 k x l
def xQ{nt:Nat}{b:Code}{c a:St}{e:Nat}(T:Hints)(f:HL){ob:List Prop}(d:∀p∈ob,p)(h:TF a (Dt prog T [] nt b (f.map (·.1)) c)=some (e+1,[],(f.map (·.1)).map (λs=>s.args=s.args),ob,a.map λx=>some x.2):=by kernel_rfl)(l:closed a=true:=by kernel_rfl):vO prog nt ⟨b,c,e+1,a⟩:=by obtain⟨σ,n,g,i,j,k⟩:=Ll h d;exact Un mixed g (λs m=>by obtain⟨x,_,rfl⟩:=qa7.1 m;exact x.2) i j l k
def LG{nt:Nat}{b:Code}{d c a:St}{g:Nat}(T:Hints)(f:HL){ob:List Prop}(n:vO prog nt ⟨b,a,g,c⟩)(e:∀p∈ob,p)(h:TF a (Dt prog T [] nt b (f.map (·.1)) d)=some (0,[],(f.map (·.1)).map (λs=>s.args=s.args),ob,a.map λx=>some x.2):=by kernel_rfl)(m:closed a=true:=by kernel_rfl):vO prog nt ⟨b,d,g,c⟩:=by obtain⟨σ,q,i,j,k,l⟩:=Ll h e;exact Uo mixed i (λs o=>by obtain⟨x,_,rfl⟩:=qa7.1 o;exact x.2) j k m l n
abbrev jA (m:Nat):A1:=.one (.d (.v (.i (.ofNat m))))
def mD (x:AV) (a:A1):Prop:=some x=some (.of a)
def Bc{α:Type} : ∀(n:Nat) (l:List α),n<=l.length->xw n l=some (l.drop n)
 | 0,l,_=>rfl
 | n+1,x::l,h=>Bc n l (by simpa using h)
def Cu{α:Type} : ∀(n:Nat) (l:List α),n<=l.length->nH n l=some (l.take n)
 | 0,l,_=>rfl
 | n+1,x::l,h=>by simp[nH,Cu n l (by simpa using h)]
def eY(s:List Ty):(tysD s).length=s.length:=by simp[tysD_map]
def Er(s:List Ty)(k:Nat):(tysD s).drop k=tysD (s.drop k):=by simp[tysD_map,List.map_drop]
def Es(s:List Ty)(k:Nat):(tysD s).take k=tysD (s.take k):=by simp[tysD_map,List.map_take]
def is_le{a b:Int}(h:a<=b):mD (aQ (decide (a<=b))) (bA true):=by simp[mD,h,aQ,bA]
def QA{a b:Int}(h:¬a<=b):mD (aQ (decide (a<=b))) (bA false):=by simp[mD,h,aQ,bA]
def is_lt{a b:Int}(h:a<b):mD (aQ (decide (a<b))) (bA true):=by simp[mD,h,aQ,bA]
def wH{a b:Int}(h:¬a<b):mD (aQ (decide (a<b))) (bA false):=by simp[mD,h,aQ,bA]
def yY{a b:Int}(h:a=b):mD (lW a) (iA b):=by rw[h];rfl
def OQ (s:List Ty) (m:Nat) (t:Int) (a:List Ty):Prop:=Bp 2 2 (tysD s) m=some (.of (.one (.e (tyD (.nd t a)) 0)))
def EK{s:List Ty}{m:Nat}{t:Int}{a:List Ty}(h:s[m]?=some (.nd t a)):OQ s m t a:=by unfold OQ Bp;rw[tysD_map,qb6,h];rfl
def Qf{s:List Ty}{m:Nat}(h:m<=s.length):qA 2 (tysD s) (some 0) (some (some m))=some (.of (dZ (s.take m))):=by simp only[qA];rw[Cu _ _ (by rw[eY];exact h),Es];rfl
def Qg{s:List Ty}{m:Nat}(h:m<=s.length):qA 2 (tysD s) (some m) (some none)=some (.of (dZ (s.drop m))):=by simp only[qA];rw[Bc _ _ (by rw[eY];exact h),Er];rfl
def TU{s:List Ty}{l m:Nat}(h:m<=s.length)(a:l<=m):qA 2 (tysD s) (some l) (some (some m))=some (.of (dZ ((s.take m).drop l))):=by simp only[qA];rw[Cu _ _ (by rw[eY];exact h),Es,Option.bind_some,Bc _ _ (by rw[eY];simp;omega),Er];rfl
def zF{a b:Int}(h:a=b)(c:0<=b)(d:b<=1000000):IntKind.i64.wrap a=b:=by subst h;rw[qe4];omega
def al0:∀q∈([]:List Prop),q:=λq h=>by simp at h
def al{p:Prop}{ps:List Prop}(h:p)(t:∀q∈ps,q):∀q∈p::ps,q:=λq a=>by
 rcases xb.1 a with rfl|a
 .exact h
 .exact t q a
def nq (a k:Int):Prop:=some (aQ (decide (a=k)))=some (.of (bA false))
def oL{a k:Int}(h:a≠k):nq a k:=by simp[nq,h,aQ,bA]
abbrev fA:A1:=bA false
def jJ (b v:Bool):Prop:=some (aQ b)=some (.of (bA v))
def eT{b v:Bool}(h:b=v):jJ b v:=by rw[h];rfl
def wI{S:St}{q:Prop}(b:q){ps:List Prop}(h:∀p∈ps,p):∀p∈ps++(q::S.map (λx=>some x.2=some x.2)),p:=λp a=>by
 rcases qa0.1 a with a|a
 .exact h p a
 .rcases xb.1 a with rfl|a
  .exact b
  .obtain⟨x,_,rfl⟩:=qa7.1 a;rfl
def LH{ok:Nat->Prop}{w:World}{t:Tr}{v:Value}(h:bI ok w t v):okN t/\gm (λ_=>none) ok w (ndA t) v:=by obtain⟨b,k,n,p,s,a,c,e,rfl,d⟩:=qL h;refine⟨b,?_⟩;rw[e];exact⟨_,rfl,.v _,.v _,.v _,.v _,by rw[<-e];exact d,trivial⟩
def U6{ok:Nat->Prop}{w:World}{l:List Va}{a:Option Addr}{V:Nat->Value}(h:aT ok w l a V):okVs l:=okVs_at.2 λx c=>by obtain⟨i,b,rfl⟩:=ye c;exact BC (h.2.2 i b)
abbrev gF (f:Func):Code:=(loopOf (f.body.getD .skip)).getD .skip
def Mh{ok:Nat->Prop}{w:World}{T:Ty}{v:Value}(h:aH ok w T v):gm (λ_=>none) ok w (tyA T) v:=by obtain⟨_,a,c,rfl,b⟩:=qI h;obtain⟨t,d⟩:=T;exact⟨_,rfl,.v _,b,trivial⟩
def Xk {α:Type} : List (Bool×α)->List α
 | []=>[]
 | (true,x)::l=>x::Xk l
 | (false,_)::l=>Xk l
def IM{b:Bool}{p:Prop}{l:List (Bool×Prop)}(h:p)(t:∀q∈Xk l,q):∀q∈Xk ((b,p)::l),q:=by
 cases b with
 | false=>exact t
 | true=>exact al h t
def gW (p:Int) (args:List Tr):Tr:=.nd 2 0 p ⟨#[]⟩ args
def eltT:Tr->Tr
 | .nd k n p s args=>.nd k n 28 s args
def Tr.k0:Tr->Int
 | .nd k _ _ _ _=>k
def Tr.n0:Tr->Int
 | .nd _ n _ _ _=>n
def Tr.p0:Tr->Int
 | .nd _ _ p _ _=>p
def Tr.s0:Tr->ByteArray
 | .nd _ _ _ s _=>s
def aL (x:Va) (l:List Tr):Tr :=
 if x.k=1 then gW 20 []else if x.k=2 then gW (if x.n=0 then 22 else 21) []
 else if x.k=3\/x.k=4\/x.k=5\/x.k=7 then .nd 0 x.n 0 ⟨#[]⟩ []else if x.k=6 then .nd 1 0 0 x.s []
 else if x.k=9 then gW (if l.length=0 then 27 else 26) l else if x.k=11 then gW 23 l
 else if x.k=12 then gW (if x.n=0 then 24 else 25) l else if x.k=10 then .nd 3 0 0 ⟨#[]⟩ l
 else if x.k=13 then .nd 3 0 0 ⟨#[]⟩ (l.map eltT)else .nd (-1) 0 0 ⟨#[]⟩ []
mutual
def dataT:Va->Tr
 | .mk k n a s args ty co=>aL (.mk k n a s args ty co) (dataTs args)
def dataTs:List Va->List Tr
 | []=>[]
 | x::xs=>dataT x::dataTs xs
end
def dL (T:Ty) (p:Int):Option (Int×List Ty) :=
 if T.t=1/\p=20 then some (0,[])else if T.t=2/\p=22 then some (0,[])else if T.t=2/\p=21 then some (1,[])
 else if T.t=9/\p=27 then some (0,[])else if T.t=9/\p=26 then some (0,T.args)else if T.t=11/\p=23 then some (0,T.args)
 else if T.t=12/\p=24 then some (0,T.args.take 1)else if T.t=12/\p=25 then some (1,T.args.drop 1)else none
def fM (t n:Int) (s:ByteArray) (l:List Va):Va:=.mk t n 0 s l [] []
mutual
def readT:Tr->Ty->Option Va
 | .nd k n p s args,T =>
  if T.t=3\/T.t=4\/T.t=5\/T.t=7 then (if k=0 then some (fM T.t n ⟨#[]⟩ [])else none)
  else if T.t=6 then (if k=1 then some (fM 6 0 s [])else none)
  else if T.t=10 then (if k=3 then (readTs args (List.replicate args.length (bB T.args 0))).map (fM 10 0 ⟨#[]⟩)else none)
  else if T.t=13 then (if k=3 then (readEs args T.args).map (fM 13 0 ⟨#[]⟩)else none)
  else match dL T p with
   | none=>none
   | some (m,ts)=>(readTs args ts).map (fM T.t m ⟨#[]⟩)
def readTs:List Tr->List Ty->Option (List Va)
 | [],[]=>some []
 | t::l,T::ts=>match readT t T with
  | none=>none
  | some x=>(readTs l ts).map (x :: ·)
 | [],_::_=>none
 | _::_,[]=>none
def readEs:List Tr->List Ty->Option (List Va)
 | [],_=>some []
 | .nd k n p s args::l,ts=>match readTs args ts with
  | none=>none
  | some ys=>if p=28 then (readEs l ts).map (fM 11 0 ⟨#[]⟩ ys :: ·)else none
end
def Va.eta(x:Va):x =.mk x.k x.n x.a x.s x.args x.types x.code:=by cases x;rfl
def oU{T:Ty}(d:eB T=true):(T.t≠8/\T.t≠14/\T.t≠15)/\∀y∈T.args,eB y=true:=by obtain⟨t,c⟩:=T;simp only[eB,sW,qu,Bq,Bool.not_true,Bool.false_or]at d;obtain⟨b,a⟩:=d;simp only[LU,ki]at b;rw[yL,zr]at a;exact⟨b,a⟩
def uh{d:Nat}{T:Ty}(h:j5 d T=true):1<=T.t/\T.t<=15:=by obtain⟨t,a⟩:=T;simp only[j5,qu,jH,ki]at h;exact h.1.2.1
def nY{T:Ty}{x:Va}(z:hasV x T=true)(u:eB T=true) :
 x.k=T.t/\x.a=0/\x.types=[]/\x.code=[]/\(T.t≠6->x.s=⟨#[]⟩)/\bQ T.t x.n=true/\∃ts,bS T x=some ts/\hasVs x.args ts=true:=by
 obtain⟨w,v⟩:=oU u;obtain⟨j,ts,o,l⟩:=Bo z;unfold eX at j;simp only[qu,ki,qc7]at j;obtain⟨⟨⟨⟨⟨y,hN⟩,r⟩,m⟩,b⟩,i⟩:=j;have g:x.a=0:=by
  rcases r with h|h
  .exact h
  .exact absurd h.1 od
 have e:x.types=[]:=by unfold eZ at b;rw[oa,oa]at b;exact ju (by simpa using b)
 have c:x.code=[]:=by
  rcases i with h|h
  .exact ju h
  .exact absurd h od
 refine⟨y,g,e,c,λq=>?_,hN,ts,o,l⟩;have p:x.s.size=0:=by
  rcases m with h|h
  .exact h
  .exact absurd h.1 q
 have f:x.s.data=#[]:=Array.eq_empty_of_size_eq_zero p
 cases A:x.s with
 | mk d=>rw[A]at f;simp at f;rw[f]
def jr{x:Va}{t n:Int}{s:ByteArray}(hk:x.k=t)(d:x.n=n)(b:x.a=0)(e:x.s=s)(f:x.types=[])(c:x.code=[]):fM t n s x.args=x:=by rw[Va.eta x,hk,d,b,e,f,c];rfl
def dataTs_len:∀l:List Va,(dataTs l).length=l.length
 | []=>rfl
 | x::l=>by simp[dataTs,dataTs_len l]
def Gs(x:Va):dataT x=aL x (dataTs x.args):=by cases x;rw[dataT];rfl
def LK{T:Ty}{x:Va}{d:Nat}{ts:List Ty}(b:j5 d T=true)(g:T.t<=7)(a:bS T x=some ts):x.args=[]:=by
 obtain⟨c,_⟩:=jU b;obtain⟨e,_⟩:=uh b;have f:bT T.t=0:=ZS
 unfold bS at a;simp only at a;rw[oa,oa,oa,oa,oa,oa]at a;split at a
 .rename_i h;exact ju od
 .cases a
def Fs{T:Ty}{x:Va}{d:Nat}(P:hasV x T=true)(I:eB T=true)(C:j5 d T=true)
 (IH:∀ts d,hasVs x.args ts=true->(∀U∈ts,eB U=true/\j5 d U=true)->readTs (dataTs x.args) ts=some x.args)
 (IE:∀us d,hasVs x.args (List.replicate x.args.length (.nd 11 us))=true->(∀U∈us,eB U=true/\j5 d U=true)->us.length=2->readEs ((dataTs x.args).map eltT) us=some x.args) :
 readT (aL x (dataTs x.args)) T=some x:=by
 obtain⟨b,o,g,c,w,hN,ts,a,m⟩:=nY P I;obtain⟨O,G⟩:=oU I;obtain⟨l,D⟩:=jU C;have J:=uh C;have j:∀U∈T.args,eB U=true/\j5 (d+1) U=true:=λU v=>⟨G U v,D U v⟩
 by_cases K:T.t<=7
 .have u:=LK C K a;rcases (show T.t=1\/T.t=2\/T.t=3\/T.t=4\/T.t=5\/T.t=6\/T.t=7 from by omega)with h|h|h|h|h|h|h
  all_goals
   have M:x.k=T.t:=b;rw[h]at b hN
  .have i:x.n=0:=by simpa[bQ]using hN
   have e:=jr b i o (w od) g c;rw[u]at e;simp[aL,b,gW,readT,h,dL,readTs,e]
  .have i:x.n=0\/x.n=1:=by simpa[bQ]using hN
   rcases i with i|i
   .have e:=jr b i o (w od) g c;rw[u]at e;simp[aL,b,i,gW,readT,h,dL,readTs,e]
   .have e:=jr b i o (w od) g c;rw[u]at e;simp[aL,b,i,gW,readT,h,dL,readTs,e]
  .have e:=jr b rfl o (w od) g c;rw[u]at e;simp[aL,b,readT,h,e]
  .have e:=jr b rfl o (w od) g c;rw[u]at e;simp[aL,b,readT,h,e]
  .have e:=jr b rfl o (w od) g c;rw[u]at e;simp[aL,b,readT,h,e]
  .have i:x.n=0:=by simpa[bQ]using hN
   have e:=jr b i o rfl g c;rw[u]at e;simp[aL,b,readT,h,e]
  .have e:=jr b rfl o (w od) g c;rw[u]at e;simp[aL,b,readT,h,e]
 .have q:=w od;rcases (show T.t=9\/T.t=10\/T.t=11\/T.t=12\/T.t=13 from by omega)with h|h|h|h|h
  all_goals
   rw[h]at b hN
  .have i:x.n=0:=by simpa[bQ]using hN
   have e:=jr b i o q g c;have L:=dataTs_len x.args
   by_cases u:x.args.length=0
   .have z:x.args=[]:=ju u;rw[z]at e;simp[aL,b,z,dataTs,gW,readT,h,dL,readTs,e]
   .have f:ts=T.args:=by
     unfold bS at a;simp only at a;rw[oa,oa,oa,oa,oa,oa]at a;split at a
     .exact (jg0 a).symm
     .cases a
    subst f;have r:=IH T.args (d+1) m j;have F:¬(dataTs x.args).length=0:=od
    have s:aL x (dataTs x.args)=gW 26 (dataTs x.args):=by unfold aL;rw[oa,oa,oa,oa,if_pos b,if_neg F]
    rw[s];simp[gW,readT,h,dL,r,e]
  .have i:x.n=0:=by simpa[bQ]using hN
   have e:=jr b i o q g c;have f:ts=List.replicate x.args.length (bB T.args 0):=by
    unfold bS at a;simp only at a;rw[oa,oa,if_pos h]at a;split at a
    .exact (jg0 a).symm
    .cases a
   subst f;have N:T.args.length=1:=by rw[h]at l;simp[bT]at l;omega
   have E:bB T.args 0∈T.args:=by unfold bB;rw[qt od];exact zj _
   have r:=IH _ (d+1) m (λU v=>by rw[qf7 v];exact j _ E);have s:aL x (dataTs x.args) =.nd 3 0 0 ⟨#[]⟩ (dataTs x.args):=by unfold aL;rw[oa,oa,oa,oa,oa,oa,oa,if_pos b]
   rw[s];simp[readT,h,dataTs_len,r,e]
  .have i:x.n=0:=by simpa[bQ]using hN
   have e:=jr b i o q g c;have f:ts=T.args:=by
    unfold bS at a;simp only at a;rw[oa,oa,oa,oa,oa,oa]at a;split at a
    .exact (jg0 a).symm
    .cases a
   subst f;have r:=IH T.args (d+1) m j;have s:aL x (dataTs x.args)=gW 23 (dataTs x.args):=by unfold aL;rw[oa,oa,oa,oa,oa,if_pos b]
   rw[s];simp[gW,readT,h,dL,r,e]
  .have i:x.n=0\/x.n=1:=by simpa[bQ]using hN
   have y:T.args.length=2:=by rw[h]at l;simp[bT]at l;omega
   have f:ts=[bB T.args x.n.toNat]:=by
    unfold bS at a;simp only at a;rw[oa,oa,oa,oa,if_pos h]at a;split at a
    .exact (jg0 a).symm
    .cases a
   subst f;obtain⟨A,B,p⟩:∃A B,T.args=[A,B]:=by
    match T.args,y with
    | [A,B],_=>exact⟨A,B,rfl⟩
   rcases i with i|i
   .have e:=jr b i o q g c;have H:bB T.args x.n.toNat=A:=by rw[i,p];rfl
    rw[H]at m;have r:=IH [A] (d+1) m (λU v=>by simp at v;subst v;exact j U (by rw[p];simp));have s:aL x (dataTs x.args)=gW 24 (dataTs x.args):=by unfold aL;rw[oa,oa,oa,oa,oa,oa,if_pos b,if_pos i]
    rw[s];simp[gW,readT,h,dL,p,r,e]
   .have e:=jr b i o q g c;have H:bB T.args x.n.toNat=B:=by rw[i,p];rfl
    rw[H]at m;have r:=IH [B] (d+1) m (λU v=>by simp at v;subst v;exact j U (by rw[p];simp));have s:aL x (dataTs x.args)=gW 25 (dataTs x.args):=by unfold aL;rw[oa,oa,oa,oa,oa,oa,if_pos b,oa]
    rw[s];simp[gW,readT,h,dL,p,r,e]
  .have i:x.n=0:=by simpa[bQ]using hN
   have e:=jr b i o q g c;have y:T.args.length=2:=by rw[h]at l;simp[bT]at l;omega
   have f:ts=List.replicate x.args.length (.nd 11 T.args):=by
    unfold bS at a;simp only at a;rw[oa,oa,oa,if_pos h]at a;split at a
    .exact (jg0 a).symm
    .cases a
   subst f;have r:=IE T.args (d+1) m j y;have s:aL x (dataTs x.args) =.nd 3 0 0 ⟨#[]⟩ ((dataTs x.args).map eltT):=by unfold aL;rw[oa,oa,oa,oa,oa,oa,oa,oa,if_pos b]
   rw[s];simp[readT,h,r,e]
def XR{T:Ty}{x:Va}{ts:List Ty}(h:T.t=11)(a:bS T x=some ts):ts=T.args:=by
 unfold bS at a;simp only at a;rw[oa,oa,oa,oa,oa,oa]at a;split at a
 .exact (jg0 a).symm
 .cases a
def D9{us:List Ty}{d:Nat}(h:∀U∈us,eB U=true/\j5 d U=true):eB (.nd 11 us)=true:=by simp only[eB,sW,Bq,Bool.not_true,Bool.false_or,qu];refine⟨ov,?_⟩;rw[yL,zr];exact λU a=>(h U a).1
mutual
def read_back:∀(x:Va) (T:Ty) (d:Nat),hasV x T=true->eB T=true->j5 d T=true->readT (dataT x) T=some x
 | .mk k n a s b o m,T,d=>by intro i h g;rw[Gs];exact Fs i h g (λj d c e=>reads_back b j d c e) (λl d c e f=>elts_back b l d c e f)
def reads_back:∀(xs:List Va) (ts:List Ty) (d:Nat),hasVs xs ts=true->(∀U∈ts,eB U=true/\j5 d U=true)->readTs (dataTs xs) ts=some xs
 | [],[],_=>by intros;simp[dataTs,readTs]
 | [],_::_,_=>by intro h;simp[hasVs]at h
 | _::_,[],_=>by intro h;simp[hasVs]at h
 | x::xs,T::ts,d=>by intro b a;simp only[hasVs,qu]at b;have c:=read_back x T d b.1 (a T ot).1 (a T ot).2;have e:=reads_back xs ts d b.2 (λU f=>a U (by simp[f]));simp[dataTs,readTs,c,e]
def elts_back:∀(xs:List Va) (us:List Ty) (d:Nat),hasVs xs (List.replicate xs.length (.nd 11 us))=true->(∀U∈us,eB U=true/\j5 d U=true)->us.length=2->readEs ((dataTs xs).map eltT) us=some xs
 | [],_,_=>by intros;simp[dataTs,readEs]
 | .mk k n a s b h g::xs,us,d=>by
  intro p l z;simp only[jn,List.replicate_succ,hasVs,qu]at p;obtain⟨y,x,o,i,B,w,q,m,j⟩:=nY p.1 (D9 l);have A:(Va.mk k n a s b h g).n=0:=by simpa[bQ,Ty.t]using w
  have f:q=us:=by exact XR rfl m
  subst f;have u:=reads_back b q d j l;have v:=elts_back xs q d p.2 l z;have c:(Va.mk k n a s b h g).k=11:=y;have e:=jr c A x (B (by simp[Ty.t])) o i;have C:dataT (.mk k n a s b h g)=gW 23 (dataTs b):=by rw[Gs];unfold aL;rw[oa,oa,oa,oa,oa,if_pos c];rfl
  have r:fM 11 0 ⟨#[]⟩ b =.mk k n a s b h g:=e;simp[dataTs,C,gW,eltT,readEs,u,v,r]
end
mutual
def cntV:Va->Nat
 | .mk _ _ _ _ args _ _=>cntVs args+1
def cntVs:List Va->Nat
 | []=>0
 | x::xs=>cntV x+cntVs xs
end
mutual
def jg (c:Nat):Va->Nat×Tr
 | .mk k n a s args ty co=>((dJ (c+1) args).1,aL (.mk k n a s args ty co) (dJ (c+1) args).2)
def dJ (c:Nat):List Va->Nat×List Tr
 | []=>(c,[])
 | x::xs=>if 300<c then (c,[])else ((dJ (jg c x).1 xs).1,(jg c x).2::(dJ (jg c x).1 xs).2)
end
def Qb(x:Va):1<=cntV x:=by cases x;simp[cntV]
mutual
def tell_full:∀(x:Va) (c:Nat),c+cntV x<=301->jg c x=(c+cntV x,dataT x)
 | .mk k n a s b f e,c=>by intro h;rw[cntV]at h;have d:=tells_full b (c+1) od;rw[jg,d,cntV,dataT];simp only[zd,and_true];omega
def tells_full:∀(xs:List Va) (c:Nat),c+cntVs xs<=301->dJ c xs=(c+cntVs xs,dataTs xs)
 | [],c=>by intro _;simp[dJ,cntVs,dataTs]
 | x::xs,c=>by intro h;rw[cntVs]at h;have d:=Qb x;have b:=tell_full x c od;have a:=tells_full xs (c+cntV x) od;rw[dJ,oa,b,a,cntVs,dataTs];simp only[zd,and_true];omega
end
mutual
def tell_most:∀(x:Va) (c:Nat),c<=300->c<(jg c x).1/\(jg c x).1<=301/\(301<=c+cntV x->(jg c x).1=301)
 | .mk k n a s b m f,c=>by
  intro h;rw[jg,cntV]
  by_cases j:c+1<=300
  .obtain⟨g,i,d⟩:=tells_most b (c+1) od;exact⟨by simp only;omega,by simp only;omega,λl=>by simp only;exact d od⟩
  .have e:c+1=301:=by omega
   rw[e]
   cases b with
   | nil=>simp[dJ,cntVs];omega
   | cons x o=>simp[dJ];omega
def tells_most:∀(xs:List Va) (c:Nat),c<=300->c<=(dJ c xs).1/\(dJ c xs).1<=301/\(301<=c+cntVs xs->(dJ c xs).1=301)
 | [],c=>by intro h;simp[dJ,cntVs];omega
 | x::xs,c=>by
  intro h;obtain⟨i,j,b⟩:=tell_most x c h;rw[dJ,oa,cntVs];simp only
  by_cases d:(jg c x).1<=300
  .obtain⟨l,g,a⟩:=tells_most xs (jg c x).1 d;refine⟨od,g,λk=>?_⟩
   by_cases f:301<=c+cntV x
   .have:=b f;omega
   .have e:=tell_full x c od;rw[e]at a|-;exact a (by simp only;omega)
  .have e:(jg c x).1=301:=by omega
   rw[e]
   cases xs with
   | nil=>simp[dJ];omega
   | cons y m=>simp[dJ];omega
end
def qm (t:Tr):Prop:=∀d,bC d t=0\/bC d t=4
def firsts_ok:∀{l:List Tr},(∀t∈l,qm t)->∀d,bG d l=0\/bG d l=4
 | [],_,d=>by simp[bG]
 | t::l,h,d=>by
  rw[bG];rcases h t ot d with a|a
  .rw[if_neg (by simpa using a)];exact firsts_ok (λz hz=>h z (by simp[hz])) d
  .rw[if_pos (by rw[a];decide)];exact .inr a
def xW{k n p:Int}{s:ByteArray}{l:List Tr}(b:Lf.fD k n p s l.length=0)(h:∀t∈l,qm t):qm (.nd k n p s l):=by
 intro d;rw[bC]
 by_cases a:24<d
 .rw[if_pos a];exact .inr rfl
 .rw[if_neg a,if_neg (by simpa using b)];exact firsts_ok h (d+1)
def KT(p:Int)(h:Lf.gD p=true)(l:Nat):Lf.fD 2 0 p ⟨#[]⟩ l=0:=by unfold Lf.fD;rw[if_neg ov,if_neg (by rw[h];simp),if_neg (by simp[Lf.qM];rfl),oa,if_neg ov]
def Ez(l:Nat):Lf.fD 3 0 0 ⟨#[]⟩ l=0:=ON
def OP(n:Int)(h:-1152921504606846976<=n/\n<=1152921504606846976):Lf.fD 0 n 0 ⟨#[]⟩ 0=0:=ON
def KV(s:ByteArray)(h:s.size<=200):Lf.fD 1 0 0 s 0=0:=by unfold Lf.fD;rw[if_neg ov,oa,if_neg (by simp[Lf.qM]),oa,oa]
def vD{p:Int}{l:List Tr}(a:Lf.gD p=true)(h:∀t∈l,qm t):qm (gW p l):=xW (KT p a _) h
def Qj(t:Tr):(eltT t).size=t.size:=by cases t;simp[eltT,Tr.size]
def elts_size:∀l:List Tr,sizes (l.map eltT)=sizes l
 | []=>rfl
 | t::l=>by simp[sizes,Qj,elts_size l]
def Sc{T:Ty}{x:Va}{d:Nat}{ts:List Ty}(A:hasV x T=true)(q:eB T=true)(h:j5 d T=true)(a:bS T x=some ts):∀U∈ts,eB U=true/\∃k,j5 k U=true:=by
 obtain⟨D,C,z,s,F,o,B,r,u⟩:=nY A q;obtain⟨y,j⟩:=oU q;obtain⟨b,i⟩:=jU h;have c:∀U∈T.args,eB U=true/\∃k,j5 k U=true:=λU e=>⟨j U e,d+1,i U e⟩;unfold bS at a;simp only at a;rw[oa]at a;intro U e;split at a
 .simp only[qk]at a;subst a;simp at e
 .split at a
  .rename_i l;split at a
   .simp only[qk]at a;subst a;rw[qf7 e];have v:T.args.length=1:=by rw[l]at b;simp[bT]at b;omega
    exact c _ (by unfold bB;rw[qt od];exact zj _)
   .cases a
  .split at a
   .rename_i g;split at a
    .simp only[qk]at a;subst a;rw[qf7 e];refine⟨D9 (d:=d+1) (λV p=>⟨j V p,i V p⟩),d,?_⟩;obtain⟨t,m⟩:=T;simp only[Ty.t]at g;subst g;simp only[j5,qu,ki,Ty.args]at h|-;refine⟨⟨h.1.1,ov,?_⟩,h.2⟩;have:=h.1.2.2;simp[bT]at this|-;exact this
    .cases a
   .split at a
    .rename_i f;split at a
     .simp only[qk]at a;subst a;simp only[yq]at e;subst e;have w:T.args.length=2:=by rw[f]at b;simp[bT]at b;omega
      have E:x.n=0\/x.n=1:=by rw[f]at o;simpa[bQ]using o
      exact c _ (by unfold bB;rw[qt od];exact zj _)
     .cases a
    .rw[oa]at a;split at a
     .simp only[qk]at a;subst a;exact c U e
     .cases a
def yJ (t:Tr):Prop:=∃l',t=gW 23 l'/\∀u∈l',qm u
def KF{T:Ty}{x:Va}(b:hasV x T=true)(c:T.t=6):x.s.size<=200:=by
 obtain⟨a,_⟩:=Bo b;unfold eX at a;simp only[qu,ki,qc7]at a;rcases a.1.1.2 with h|h
 .omega
 .exact h.2
def CF{T:Ty}{x:Va}{d:Nat}(k:hasV x T=true)(j:eB T=true)(i:j5 d T=true)(l:List Tr)(m:x.args=[]->l=[])(b:∀t∈l,qm t)(w:T.t=13->∀t∈l,yJ t) :
 qm (aL x l)/\(aL x l).size=sizes l+1/\(T.t=11->yJ (aL x l)):=by
 obtain⟨a,D,B,r,E,hN,G,g,v⟩:=nY k j;obtain⟨z,y⟩:=oU j;have o:=uh i
 by_cases q:T.t<=7
 .have f:=m (LK i q g);subst f;rcases (show T.t=1\/T.t=2\/T.t=3\/T.t=4\/T.t=5\/T.t=6\/T.t=7 from by omega)with h|h|h|h|h|h|h
  all_goals
   rw[h]at a hN;refine⟨?_,?_,λe=>od⟩
  .simp only[aL,a,if_true];exact vD rfl b
  .simp[aL,a,gW,Tr.size,sizes]
  .have e:aL x []=gW (if x.n=0 then 22 else 21) []:=by unfold aL;rw[oa,if_pos a]
   rw[e];split<;>exact vD rfl b
  .have e:aL x []=gW (if x.n=0 then 22 else 21) []:=by unfold aL;rw[oa,if_pos a]
   rw[e];simp[gW,Tr.size,sizes]
  all_goals first
   | (have e:aL x [] =.nd 0 x.n 0 ⟨#[]⟩ []:=(by unfold aL;rw[oa,oa,oc])
      rw[e]
      first
       | exact xW (OP x.n (by simp[bQ,kE,gN,lY]at hN;omega)) b
       | simp[Tr.size,sizes])
   | (have e:aL x [] =.nd 1 0 0 x.s []:=(by unfold aL;rw[oa,oa,oa,oc])
      rw[e]
      first
       | exact xW (KV x.s (KF k h)) b
       | simp[Tr.size,sizes])
 .rcases (show T.t=9\/T.t=10\/T.t=11\/T.t=12\/T.t=13 from by omega)with h|h|h|h|h
  all_goals
   rw[h]at a hN
  .have e:aL x l=gW (if l.length=0 then 27 else 26) l:=by unfold aL;rw[oa,oa,oa,oa,if_pos a]
   rw[e];exact⟨by split<;>exact vD rfl b,by simp[gW,Tr.size],λe=>od⟩
  .have e:aL x l =.nd 3 0 0 ⟨#[]⟩ l:=by unfold aL;rw[oa,oa,oa,oa,oa,oa,oa,if_pos a]
   rw[e];exact⟨xW (Ez _) b,by simp[Tr.size],λe=>od⟩
  .have e:aL x l=gW 23 l:=by unfold aL;rw[oa,oa,oa,oa,oa,if_pos a]
   rw[e];exact⟨vD rfl b,by simp[gW,Tr.size],λ_=>⟨l,rfl,b⟩⟩
  .have e:aL x l=gW (if x.n=0 then 24 else 25) l:=by unfold aL;rw[oa,oa,oa,oa,oa,oa,if_pos a]
   rw[e];exact⟨by split<;>exact vD rfl b,by simp[gW,Tr.size],λe=>od⟩
  .have e:aL x l =.nd 3 0 0 ⟨#[]⟩ (l.map eltT):=by unfold aL;rw[oa,oa,oa,oa,oa,oa,oa,oa,if_pos a]
   rw[e];refine⟨xW (Ez _) (λt A=>?_),by simp[Tr.size,elts_size],λe=>od⟩;obtain⟨u,C,rfl⟩:=qa7.1 A;obtain⟨F,rfl,c⟩:=w h u C;exact vD (p:=28) rfl c
def Sg{T:Ty}{x:Va}{ts:List Ty}(h:T.t=13)(a:bS T x=some ts):∀U∈ts,U.t=11:=by
 unfold bS at a;simp only at a;rw[oa,oa,oa,if_pos h]at a;split at a
 .simp only[qk]at a;subst a;intro U b;rw[qf7 b];rfl
 .cases a
def KE(c:Nat):(dJ c []).2=[]:=by simp[dJ]
mutual
def tell_ok:∀(x:Va) (T:Ty) (d c:Nat),hasV x T=true->eB T=true->j5 d T=true->qm (jg c x).2/\(jg c x).2.size+c=(jg c x).1/\(T.t=11->yJ (jg c x).2)
 | .mk k n a s b G A,T,d,c=>by intro j i l;obtain⟨E,D,u,q,F,C,v,f,g⟩:=nY j i;obtain⟨o,B,p⟩:=tells_ok b v (c+1) g (Sc j i l f);obtain⟨w,y,z⟩:=CF j i l (dJ (c+1) b).2 (λe=>by have m:b=[]:=e;rw[m,KE]) o (λh t r=>p (Sg h f) t r);rw[jg];exact⟨w,by simp only;rw[y];omega,z⟩
def tells_ok:∀(xs:List Va) (ts:List Ty) (c:Nat),hasVs xs ts=true->(∀U∈ts,eB U=true/\∃d,j5 d U=true)->(∀t∈(dJ c xs).2,qm t)/\sizes (dJ c xs).2+c=(dJ c xs).1/\((∀U∈ts,U.t=11)->∀t∈(dJ c xs).2,yJ t)
 | [],_,c=>by intros;simp[dJ,sizes]
 | _::_,[],_=>by intro h;simp[hasVs]at h
 | x::xs,T::ts,c=>by
  intro g i;simp only[hasVs,qu]at g;obtain⟨f,d,e⟩:=i T ot;obtain⟨j,n,k⟩:=tell_ok x T d c g.1 f e;obtain⟨l,o,m⟩:=tells_ok xs ts (jg c x).1 g.2 (λU b=>i U (by simp[b]));rw[dJ];split
  .simp[sizes]
  .refine⟨?_,?_,?_⟩
   .intro t a;rcases xb.1 a with rfl|a
    .exact j
    .exact l t a
   .simp only[sizes];omega
   .intro h t a;rcases xb.1 a with rfl|a
    .exact k (h T ot)
    .exact m (λU b=>h U (by simp[b])) t a
end
def dataTs_nil:dataTs []=[]:=by simp[dataTs]
mutual
def data_ok:∀(x:Va) (T:Ty) (d:Nat),hasV x T=true->eB T=true->j5 d T=true->qm (dataT x)/\(dataT x).size=cntV x/\(T.t=11->yJ (dataT x))
 | .mk k n a s b F z,T,d=>by intro i g j;obtain⟨D,C,r,p,E,B,u,c,f⟩:=nY i g;obtain⟨m,A,o⟩:=datas_ok b u f (Sc i g j c);obtain⟨v,w,y⟩:=CF i g j (dataTs b) (λe=>by have l:b=[]:=e;rw[l,dataTs_nil]) m (λh t q=>o (Sg h c) t q);rw[dataT,cntV];exact⟨v,by rw[w];omega,y⟩
def datas_ok:∀(xs:List Va) (ts:List Ty),hasVs xs ts=true->(∀U∈ts,eB U=true/\∃d,j5 d U=true)->(∀t∈dataTs xs,qm t)/\sizes (dataTs xs)=cntVs xs/\((∀U∈ts,U.t=11)->∀t∈dataTs xs,yJ t)
 | [],_=>by intros;simp[dataTs,sizes,cntVs]
 | _::_,[]=>by intro h;simp[hasVs]at h
 | x::xs,T::ts=>by
  intro f g;simp only[hasVs,qu]at f;obtain⟨e,d,c⟩:=g T ot;obtain⟨i,m,j⟩:=data_ok x T d f.1 e c;obtain⟨k,n,l⟩:=datas_ok xs ts f.2 (λU b=>g U (by simp[b]));rw[dataTs,cntVs];refine⟨?_,?_,?_⟩
  .intro t a;rcases xb.1 a with rfl|a
   .exact i
   .exact k t a
  .simp only[sizes];omega
  .intro h t a;rcases xb.1 a with rfl|a
   .exact j (h T ot)
   .exact l (λU b=>h U (by simp[b])) t a
end
def dR (x:Va):Tr:=(jg 0 x).2
def DV{t:Tr}(h:qm t)(b:300<t.size):dS t=4:=by
 unfold dS;rcases h 1 with a|a
 .rw[if_neg (by simpa using a),if_pos b]
 .rw[if_pos (by rw[a];decide),a]
def OD{x:Va}{T:Ty}{d:Nat}(c:hasV x T=true)(b:eB T=true)(a:j5 d T=true):dS (dR x)=dS (dataT x)/\(dS (dR x)=0->dR x=dataT x)/\(dR x).size<=301:=by
 obtain⟨f,l,_⟩:=tell_ok x T d 0 c b a;obtain⟨g,m,_⟩:=data_ok x T d c b a;obtain⟨n,o,i⟩:=tell_most x 0 od;unfold dR
 by_cases h:cntV x<=301
 .have e:=tell_full x 0 od;rw[e];exact⟨rfl,λ_=>rfl,by simp only;omega⟩
 .have p:=i od;have j:=DV f od;have k:=DV g od;rw[j,k];exact⟨rfl,λe=>absurd e ov,od⟩
