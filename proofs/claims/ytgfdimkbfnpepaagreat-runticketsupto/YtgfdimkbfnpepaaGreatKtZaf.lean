import Derived.Test.YtgfdimkbfnpepaaGreatKtZae
import Derived.Test.YtgfdimkbfnpepaaGreatKtZac
namespace Go.Proofs.YtgfdimkbfnpepaaGreat
set_option linter.all false
open Go.Proofs.Tryz
set_option maxRecDepth 100000
set_option maxHeartbeats 4000000
open Pe
def Tr.args0:Tr->aE
 | .nd _ _ _ _ l=>l
mutual
def tyD:Ty->bd
 | .nd t a=>[.v (.i t),.s 2 (tysD a)]
def tysD:ao->List bd
 | []=>[]
 | T::ts=>tyD T::tysD ts
end
mutual
def ndD:Tr->bd
 | .nd k n p s a=>[.v (.i k),.v (.i n),.v (.i p),.v (.string s),.s 5 (ndsD a)]
def ndsD:aE->List bd
 | []=>[]
 | T::ts=>ndD T::ndsD ts
end
def tysD_map:∀ts:ao,tysD ts=ts.map tyD
 | []=>rfl
 | T::ts=>by simp[tysD,tysD_map ts]
def ndsD_map:∀ts:aE,ndsD ts=ts.map ndD
 | []=>rfl
 | T::ts=>by simp[ndsD,ndsD_map ts]
def AA(T:Ty):(tyD T).length=2:=by cases T;rfl
def LJ(t:Tr):(ndD t).length=5:=by cases t;rfl
mutual
def okT:Ty->Prop
 | .nd t a=>bD t/\okTs a
def okTs:ao->Prop
 | []=>True
 | T::ts=>okT T/\okTs ts
end
mutual
def okN:Tr->Prop
 | .nd k n p s a=>(bD k/\bD n/\bD p/\s.size<=maxLen)/\okNs a
def okNs:aE->Prop
 | []=>True
 | T::ts=>okN T/\okNs ts
end
def okTs_at:∀{ts:ao},okTs ts ↔ ∀T∈ts,okT T
 | []=>by simp[okTs]
 | T::ts=>by simp[okTs,okTs_at (ts:=ts)]
def okNs_at:∀{ts:aE},okNs ts ↔ ∀T∈ts,okN T
 | []=>by simp[okNs]
 | T::ts=>by simp[okNs,okNs_at (ts:=ts)]
section
variable {ok:br}{w:bx}
def qI{T:Ty}{v:cg}(h:aH ok w T v):okT T/\∃a c,v=bY T.t a T.args.length c/\fI ok w (.s 2 (tysD T.args)) (.slice a T.args.length c):=by
 induction h with
 | mk V J E F B K p =>
  rename_i t args a c;refine⟨⟨F,okTs_at.2 (λT A=>?_)⟩,a,c,rfl,?_⟩
  .obtain⟨i,C,rfl⟩:=ub A;exact (p i C).1
  .have l:(tysD args).length=args.length:=by simp[tysD_map]
   have m:fI ok w (.s 2 (tysD args)) (.slice a (tysD args).length c):=by
    have d:∀(i:Nat) (r:bd),(tysD args)[i]?=some r->∃h:i<args.length,r=tyD args[i]:=λi r e=>by rw[tysD_map,qb7,kd]at e;obtain⟨T,k,rfl⟩:=e;obtain⟨h,rfl⟩:=qv.1 k;exact⟨h,rfl⟩
    refine .s (λi j=>((V i).cells[j]?).getD undef) od od (λi r e=>?_) (λi r j x k f=>?_) (λi r j x k f=>?_)
    .obtain⟨h,rfl⟩:=d i r e;exact AA _
    .obtain⟨h,rfl⟩:=d i r k;obtain⟨b,o,rfl,hb,G,q,L,u,n,y,z⟩:=B i h;have I:j<2:=by have:=(qv.1 f).1;rwa [AA]at this
     refine⟨b,o,rfl,hb,?_⟩;rw[n];rcases (show j=0\/j=1 by omega)with rfl|rfl
     .exact y
     .rw[show o+(i*2+1)=o+i*2+1 by omega];exact z
    .obtain⟨h,rfl⟩:=d i r k;have⟨_,q,u,n,g⟩:=p i h;rw[n];generalize args[i]=T at f g n;have⟨G,H⟩:=T;rcases j with _|_|j
     .simp only[tyD,kA,qk]at f;subst f;exact .v _
     .simp only[tyD,yy,kA,qk]at f;subst f;exact g
     .simp[tyD]at f
   rw[l]at m;exact m
def qV{ts:ao}{a:bj}{V:bt}{c:Nat}(h:dw ok w ts a V)(hc:ts.length<=c):okTs ts/\fI ok w (.s 2 (tysD ts)) (.slice a ts.length c):=by have:=qI (aH.of (t:=0) ⟨ov,ov⟩ h hc);have⟨b,f,g,e,d⟩:=this;simp only[Go.Proofs.YtgfdimkbfnpepaaGreat.bY,Ty.t,Ty.args,qd7,qf0,xo,kl,true_and,and_true]at e;obtain⟨rfl,rfl⟩:=e;exact⟨b.2,d⟩
def rep_rowT:∀(N:Nat) {ts:ao}{a:bj}{l c:Nat},tysizes ts<=N->okTs ts->fI ok w (.s 2 (tysD ts)) (.slice a l c)->l=ts.length/\ts.length<=c/\∃V,dw ok w ts a V:=λN=>by
 induction N with
 | zero =>
  intro ts a l c hN n h;have⟨E,F,U,e,D,H,I,p⟩:=fH h;have hz:ts=[]:=by
   cases ts with
   | nil=>rfl
   | cons T ts=>have:=Cz T;simp only[tysizes]at hN;omega
  subst hz;simp only[kl]at e;obtain⟨rfl,rfl,rfl⟩:=e;exact⟨rfl,D,λ_=>.i 0,dw.nil _ _ _ _⟩
 | succ N L =>
  intro ts a l c hN n h;have⟨E,F,U,e,D,H,I,p⟩:=fH h;have m:(tysD ts).length=ts.length:=by simp[tysD_map]
  simp only[kl]at e;obtain⟨rfl,rfl,rfl⟩:=e;have k:∀(i:Nat) (d:i<ts.length),(tysD ts)[i]?=some (tyD ts[i]):=λi d=>by rw[tysD_map,qb7,qn d];rfl
  have g:∀(i:Nat) (d:i<ts.length),∃v,rC ok w a i v/\aH ok w ts[i] v:=λi d=>by
   have u:ts[i]∈ts:=zd d;have hz:=jS u;have f:=okTs_at.1 n _ u;have q:=k i d;generalize ts[i]=T at u hz f q;have⟨t,j⟩:=T;obtain⟨⟨b,o,rfl,hb,A⟩,M⟩:=p i _ 0 _ q rfl;have⟨⟨O,Q,e,_,B⟩,y⟩:=p i _ 1 _ q rfl;simp only[qk,qc7,and_true]at e;obtain⟨rfl,rfl⟩:=e;have⟨z,C,_,G,_⟩:=fH y;rw[G]at y B;rw[bW M]at A;have x:tysizes j<=N:=by simp only[Ty.size]at hz;omega
   have⟨P,K,V,J⟩:=L x f.2 y;have r:(tysD j).length=j.length:=by simp[tysD_map]
   refine⟨bY t z j.length C,⟨b,o,rfl,hb,t,z,j.length,C,rfl,A,?_⟩,aH.of f.1 J K⟩;rw[<-r,qd6];exact B
  refine⟨m,od,λi=>if d:i<ts.length then (g i d).choose else undef,od,λi d=>?_,λi d=>?_⟩
  .simp only[d,dite_true];exact (g i d).choose_spec.1
  .simp only[d,dite_true];exact (g i d).choose_spec.2
def qL{T:Tr}{v:cg}(h:bI ok w T v):okN T/\∃k n p s a c,T =.nd k n p s T.args0/\v=af k n p s a T.args0.length c/\fI ok w (.s 5 (ndsD T.args0)) (.slice a T.args0.length c):=by
 induction h with
 | mk V U J L K M H W y =>
  rename_i k n p s args a c hk;refine⟨⟨⟨L,K,M,J⟩,okNs_at.2 (λT m=>?_)⟩,k,n,p,s,a,c,rfl,rfl,?_⟩
  .obtain⟨i,I,rfl⟩:=ub m;exact (y i I).1
  .have q:(ndsD args).length=args.length:=by simp[ndsD_map]
   have t:fI ok w (.s 5 (ndsD args)) (.slice a (ndsD args).length c):=by
    have f:∀(i:Nat) (r:bd),(ndsD args)[i]?=some r->∃h:i<args.length,r=ndD args[i]:=λi r e=>by rw[ndsD_map,qb7,kd]at e;obtain⟨T,l,rfl⟩:=e;obtain⟨h,rfl⟩:=qv.1 l;exact⟨h,rfl⟩
    refine .s (λi j=>((V i).cells[j]?).getD undef) od od (λi r e=>?_) (λi r j x l d=>?_) (λi r j x l d=>?_)
    .obtain⟨h,rfl⟩:=f i r e;exact LJ _
    .obtain⟨h,rfl⟩:=f i r l;obtain⟨b,o,rfl,hb,N,O,P,Q,z,Y,A,u,B,C,E,F,G⟩:=H i h;have S:j<5:=by have:=(qv.1 d).1;rwa [LJ]at this
     refine⟨b,o,rfl,hb,?_⟩;rw[u];rw[<-qd6];rcases (show j=0\/j=1\/j=2\/j=3\/j=4 by omega)with rfl|rfl|rfl|rfl|rfl
     .exact B
     .exact C
     .exact E
     .exact F
     .exact G
    .obtain⟨h,rfl⟩:=f i r l;have⟨_,N,O,P,Q,z,A,m,u,g⟩:=y i h;rw[u];generalize args[i]=T at d g u m;have⟨X,Z,p2,s2,R⟩:=T;simp only[Tr.nd.injEq]at m;obtain⟨rfl,rfl,rfl,rfl,_⟩:=m;rcases j with _|_|_|_|_|j
     .simp only[ndD,kA,qk]at d;subst d;exact .v _
     .simp only[ndD,yy,kA,qk]at d;subst d;exact .v _
     .simp only[ndD,yy,kA,qk]at d;subst d;exact .v _
     .simp only[ndD,yy,kA,qk]at d;subst d;exact .v _
     .simp only[ndD,yy,kA,qk]at d;subst d;exact g
     .simp[ndD]at d
   rw[q]at t;exact t
def rep_rowN:∀(N:Nat) {ts:aE}{a:bj}{l c:Nat},sizes ts<=N->okNs ts->fI ok w (.s 5 (ndsD ts)) (.slice a l c)->l=ts.length/\ts.length<=c/\∃V,cK ok w ts a V:=λN=>by
 induction N with
 | zero =>
  intro ts a l c hN u h;have⟨P,Q,U,e,M,R,S,j⟩:=fH h;have hz:ts=[]:=by
   cases ts with
   | nil=>rfl
   | cons T ts=>have:=size_pos T;simp only[sizes]at hN;omega
  subst hz;simp only[kl]at e;obtain⟨rfl,rfl,rfl⟩:=e;exact⟨rfl,M,λ_=>.i 0,cK.nil _ _ _ _⟩
 | succ N X =>
  intro ts a l c hN u h;have⟨P,Q,U,e,M,R,S,j⟩:=fH h;have t:(ndsD ts).length=ts.length:=by simp[ndsD_map]
  simp only[kl]at e;obtain⟨rfl,rfl,rfl⟩:=e;have r:∀(i:Nat) (d:i<ts.length),(ndsD ts)[i]?=some (ndD ts[i]):=λi d=>by rw[ndsD_map,qb7,qn d];rfl
  have g:∀(i:Nat) (d:i<ts.length),∃v,ky ok w a i v/\bI ok w ts[i] v:=λi d=>by
   have O:ts[i]∈ts:=zd d;have hz:(ts[i]).size<=sizes ts:=by have:=gH ts i d;have:=jF ts (i+1);omega
   have f:=okNs_at.1 u _ O;have m:=r i d;generalize ts[i]=T at O hz f m;have⟨k,n,p,s,q⟩:=T;obtain⟨⟨b,o,rfl,hb,z⟩,Y⟩:=j i _ 0 _ m rfl;have⟨⟨b1,o1,J,_,A⟩,Z⟩:=j i _ 1 _ m rfl;have⟨⟨b2,o2,y,_,B⟩,r2⟩:=j i _ 2 _ m rfl;have⟨⟨b3,o3,K,_,C⟩,r3⟩:=j i _ 3 _ m rfl;have⟨⟨b4,o4,L,_,x⟩,G⟩:=j i _ 4 _ m rfl;simp only[qk,qc7,and_true]at J y K L;obtain⟨rfl,rfl⟩:=J;obtain⟨rfl,rfl⟩:=y;obtain⟨rfl,rfl⟩:=K;obtain⟨rfl,rfl⟩:=L;have⟨H,I,_,y,_⟩:=fH G;rw[y]at G x;rw[bW Y]at z;rw[bW Z]at A;rw[bW r2]at B;rw[bW r3]at C;have F:sizes q<=N:=by simp only[Tr.size]at hz;omega
   have⟨hl,W,V,D⟩:=X F f.2 G;have E:(ndsD q).length=q.length:=by simp[ndsD_map]
   rw[E]at x;simp only[<-qd6]at z A B C x;exact⟨af k n p s H q.length I,⟨b,o,rfl,hb,k,n,p,s,H,q.length,I,rfl,z,A,B,C,x⟩,bI.mk (hk:=W) V D.1 f.1.2.2.2 f.1.1 f.1.2.1 f.1.2.2.1 D.2.1 D.2.2⟩
  refine⟨t,od,λi=>if d:i<ts.length then (g i d).choose else undef,od,λi d=>?_,λi d=>?_⟩
  .simp only[d,dite_true];exact (g i d).choose_spec.1
  .simp only[d,dite_true];exact (g i d).choose_spec.2
end
def dZ (ts:ao):A1:=.one (.d (.s 2 (tysD ts)))
def tyA:Ty->A1
 | .nd t a=>.agg [.d (.v (.i t)),.d (.s 2 (tysD a))]
def CW (ts:aE):A1:=.one (.d (.s 5 (ndsD ts)))
def ndA:Tr->A1
 | .nd k n p s a=>.agg [.d (.v (.i k)),.d (.v (.i n)),.d (.v (.i p)),.d (.v (.string s)),.d (.s 5 (ndsD a))]
def iA (n:Int):A1:=.one (.d (.v (.i n)))
def bA (b:Bool):A1:=.one (.d (.v (.bool b)))
def nilA:A1:=.one (.d (.s 0 []))
abbrev Hd (s:Sp):Prop:=Holds prog s
abbrev HL:=List { s:Sp // Hd s }
def mixed:prog.follows .mixedOrders:=oA
def asked:Option (AV×List Sp×Obl)->Option (AV×List Sp×List Prop×List Prop)
 | some (v,C,ob)=>some (v,C,(ob.filter λp=>!p.1).map (·.2),(ob.filter λp=>p.1).map (·.2))
 | none=>none
def aaT[pq](d:Mv)(fr:Fr)(g:fr.b->d.p=none){f:FuncId}{fn:Func}(r:prog.funcs[f]?=some fn)(T:Hints)(L:List Lp)(o:∀l∈L,vO prog fn.ntmps l)(i:List { s:Sp // Holds prog s }){args:List A1}{res:AV}{ob:List Prop}
 (h:asked (Wd d.p fr.b prog fn (fn.body.getD .skip) T L (i.map (·.1)) args)=some (res,[],(i.map (·.1)).map (λs=>s.args=s.args),ob)) (hob:∀p∈ob,p)
 (hb:fn.body.isSome:=by kernel_rfl) (hn:(fn.name == "runtime.NumGoroutine")=false:=by kernel_rfl):Holds prog (@Sp.mk f args res d fr):=by
 have⟨c,j⟩:=qg5.1 hb;rw[j]at h;unfold asked at h;split at h<;>try (cases h;done)
 rename_i v C a q;simp only[qk,kh]at h;obtain⟨rfl,rfl,m,n⟩:=h;refine holds mixed r j hn d fr g T L _ (λs t=>by obtain⟨x,_,rfl⟩:=ud.1 t;exact x.2) o q (λp k=>?_)
 cases hb:p.1 with
 | false =>
  have : p.2∈(a.filter λp=>!p.1).map (·.2):=ud.2 ⟨p,jd2.2 ⟨k,by simp[hb]⟩,rfl⟩;rw[m]at this;have⟨s,_,e⟩:=ud.1 this;exact e ▸ trivial
 | true =>
  have : p.2∈(a.filter λp=>p.1).map (·.2):=ud.2 ⟨p,jd2.2 ⟨k,hb⟩,rfl⟩;rw[n]at this;exact hob _ this
def YJ[pq](c:Mv){f:FuncId}{a:Func}(e:prog.funcs[f]?=some a)(T:Hints)(L:List Lp)(d:∀l∈L,vO prog a.ntmps l)(b:List { s:Sp // Holds prog s }){args:List A1}{res:AV}{ob:List Prop}
 (h:asked (Wd c.p false prog a (a.body.getD .skip) T L (b.map (·.1)) args)=some (res,[],(b.map (·.1)).map (λs=>s.args=s.args),ob)) (hob:∀p∈ob,p)
 (hb:a.body.isSome:=by kernel_rfl) (hn:(a.name == "runtime.NumGoroutine")=false:=by kernel_rfl):Holds prog (@Sp.mk f args res c fr0):=aaT c fr0 (λh=>by cases h) e T L d b h hob hb hn
abbrev fr1:Fr:=⟨true⟩
abbrev HdF (f:FuncId) (args:List A1) (res:AV):Prop:=Holds prog (@Sp.mk f args res mv0 fr1)
def abm{f:FuncId}{a:Func}(d:prog.funcs[f]?=some a)(T:Hints)(L:List Lp)(c:∀l∈L,vO prog a.ntmps l)(b:List { s:Sp // Holds prog s }){args:List A1}{res:AV}{ob:List Prop}
 (hob:∀p∈ob,p) (h:asked (Wd none true prog a (a.body.getD .skip) T L (b.map (·.1)) args)=some (res,[],(b.map (·.1)).map (λs=>s.args=s.args),ob):=by kernel_rfl)
 (hb:a.body.isSome:=by kernel_rfl) (hn:(a.name == "runtime.NumGoroutine")=false:=by kernel_rfl):HdF f args res:=aaT mv0 fr1 (λ_=>rfl) d T L c b h hob hb hn
def Ce{f:FuncId}{a:Func}(d:prog.funcs[f]?=some a)(T:Hints)(L:List Lp)(c:∀l∈L,vO prog a.ntmps l)(b:HL){args:List A1}{res:AV}{ob:List Prop}
 (hob:∀p∈ob,p) (h:asked (evF prog a (a.body.getD .skip) T L (b.map (·.1)) args)=some (res,[],(b.map (·.1)).map (λs=>s.args=s.args),ob):=by kernel_rfl)
 (hb:a.body.isSome:=by kernel_rfl) (hn:(a.name == "runtime.NumGoroutine")=false:=by kernel_rfl):Hd ⟨f,args,res⟩:=YJ mv0 d T L c b h hob hb hn
def runT{f:FuncId}{a:Func}(c:prog.funcs[f]?=some a)(T:Hints)(b:HL){args:List A1}{res:AV}{ob:List Prop}
 (hob:∀p∈ob,p) (h:asked (evF prog a (a.body.getD .skip) T [] (b.map (·.1)) args)=some (res,[],(b.map (·.1)).map (λs=>s.args=s.args),ob):=by kernel_rfl)
 (hb:a.body.isSome:=by kernel_rfl) (hn:(a.name == "runtime.NumGoroutine")=false:=by kernel_rfl):Hd ⟨f,args,res⟩:=Ce c T [] ot b hob h hb hn
def aF{f:FuncId}{a:Func}(c:prog.funcs[f]?=some a)(b:HL){args:List A1}{res:AV}
 (h:asked (evF prog a (a.body.getD .skip) [] [] (b.map (·.1)) args)=some (res,[],(b.map (·.1)).map (λs=>s.args=s.args),[]):=by kernel_rfl)
 (hb:a.body.isSome:=by kernel_rfl) (hn:(a.name == "runtime.NumGoroutine")=false:=by kernel_rfl):Hd ⟨f,args,res⟩:=runT c [] b ot h hb hn
def UT(T:Ty):(tyA T).keys=[]:=by cases T;rfl
def JZ(t:Tr):(ndA t).keys=[]:=by cases t;rfl
def Pe.Holds.conv{f:FuncId}{a:List A1}{b:AV}(h:Hd ⟨f,a,b⟩){args:List A1}{res:AV}(i:∀ok w vs,dU (gm (λ_=>none) ok w) args vs->dU (gm (λ_=>none) ok w) a vs)(j:∀ok w v,iZ (λ_=>none) ok w b v->iZ (λ_=>none) ok w res v)(nk:res.keys=[]:=by first|rfl|(simp only[AV.keys,qd4,List.flatMap_nil,UT,JZ,qe5,qd1]<;>rfl)):Hd ⟨f,args,res⟩ :=
 ⟨⟨h.OT.1,nk⟩,λok w vs k=>(h.runN rfl ok w vs (i ok w vs k)).mono λe l ⟨g,v,c,d⟩=>⟨g,v,c,j _ _ _ d⟩⟩
def gG{ok:br}{w:bx}{n m:Nat}{v:cg}(h:fI ok w (.s n []) v)(e:m≠0:=by decide):fI ok w (.s m []) v:=by obtain⟨a,c,U,rfl,b,d,_⟩:=fH h;exact .s U b d ot ot ot (λh=>absurd h e)
def bK{f:FuncId}{a:Func}(e:prog.funcs[f]?=some a)(hb:a.body.isSome:=by kernel_rfl)(hn:(a.name == "runtime.NumGoroutine")=false:=by kernel_rfl):∀(args:Array cg) (w:bx),(callFunc f args).run prog w =.ok (.enter f args) w:=λargs w=>by
 have⟨c,d⟩:=qg5.1 hb
 have b:¬a.name = "runtime.NumGoroutine":=by simpa using hn
 simp[callFunc,e,b,d,Result.andThen]
def rM{f:FuncId}{a:Func}{res:AV}(b:prog.funcs[f]?=some a)(hb:a.body.isSome:=by kernel_rfl)(hn:(a.name == "runtime.NumGoroutine")=false:=by kernel_rfl)(nk:res.keys=[]:=by first|rfl|(simp only[AV.keys,qd4,List.flatMap_nil,UT,JZ,qe5,qd1]<;>rfl)):(∀(args:Array cg) (w:bx),(callFunc f args).run prog w =.ok (.enter f args) w)/\res.keys=[]:=⟨bK b hb hn,nk⟩
mutual
def okT_formed:∀(T:Ty) (d:Nat),j5 d T->okT T
 | .nd t a,d,h=>by simp only[j5,qu,jH,kj]at h;exact⟨⟨od,od⟩,okTs_formed a (d+1) h.2⟩
def okTs_formed:∀(l:ao) (d:Nat),ig d l->okTs l
 | [],_,_=>trivial
 | T::l,d,h=>by simp only[ig,qu]at h;exact⟨okT_formed T d h.1,okTs_formed l d h.2⟩
end
def oM{T:Ty}(h:bn T):okT T:=by simp only[bn,qu]at h;exact okT_formed T 1 h.1.1
def ak{s:ao}(h:s.all bn):okTs s:=okTs_at.2 λT a=>oM (kB.1 h T a)
def jC{ok:br}{w:bx}{T:Ty}{v:cg}(hk:okT T)(h:gm (λ_=>none) ok w (tyA T) v):aH ok w T v:=by
 have⟨t,k⟩:=T;obtain⟨j,rfl,h⟩:=h
 match j,h with
 | [x,y],⟨d,b,_⟩ =>
  have e:=bW d;obtain⟨a,c,U,rfl,_⟩:=fH b;have⟨i,g,V,f⟩:=rep_rowT _ (qS _) hk.2 b;subst e;rw[i];exact aH.of hk.1 f g
def jM{f:FuncId}{b:Bool}{args:List A1}(a:∀(args:Array cg) (w:bx),(callFunc f args).run prog w =.ok (.enter f args) w)(h:∀ok w vs,dU (gm (λ_=>none) ok w) args vs->Calls prog f vs.toArray w λe w'=>e =.returned (.bool b)/\cm w w' none):Hd ⟨f,args,aQ b⟩ :=
 ⟨⟨a,rfl⟩,λok w vs d=>(h ok w vs d).mono (by rintro e w' ⟨rfl,c⟩;exact⟨c,_,rfl,fI.v _⟩)⟩
def jR{ok:br}{w:bx}{ts:ao}{n:Nat}{v:cg}(hk:okTs ts)(hn:n=2\/ts=[])(h:fI ok w (.s n (tysD ts)) v):∃a c V,v =.slice a ts.length c/\ts.length<=c/\dw ok w ts a V:=by
 have h:fI ok w (.s 2 (tysD ts)) v:=by
  rcases hn with rfl|rfl
  .exact h
  .exact gG h
 have⟨a,c,U,e,_⟩:=fH h;subst e;have⟨f,d,V,b⟩:=rep_rowT _ (qS _) hk h;exact⟨a,c,V,by rw[f],d,b⟩
def oK{ok:br}{w:bx}{t:Tr}{u:cg}(b:okN t)(l:gm (λ_=>none) ok w (ndA t) u):bI ok w t u:=by
 have⟨k,n,p,s,r⟩:=t;obtain⟨q,rfl,h⟩:=l
 match q,h with
 | [v,x,y,z,A],⟨f,g,i,j,e,_⟩ =>
  obtain⟨a,c,U,rfl,_⟩:=fH e;have⟨o,m,V,d⟩:=rep_rowN _ (qS _) b.2 e;rw[bW f,bW g,bW i,bW j,o];exact bI.mk (hk:=m) V d.1 b.1.2.2.2 b.1.1 b.1.2.1 b.1.2.2.1 d.2.1 d.2.2
def uI{ok:br}{w:bx}{l:aE}{a:bj}{V:bt}{c:Nat}(h:cK ok w l a V)(hc:l.length<=c):fI ok w (.s 5 (ndsD l)) (.slice a l.length c):=by have:=qL (bI.mk (hk:=hc) (k:=0) (n:=0) (p:=0) (s:=⟨#[]⟩) V h.1 (zE _) ⟨ov,ov⟩ ⟨ov,ov⟩ ⟨ov,ov⟩ h.2.1 h.2.2);have⟨_,k,n,p,s,d,f,_,e,b⟩:=this;simp only[af,Tr.args0,qd7,qf0,xo,kl,true_and,and_true]at e;obtain⟨_,_,_,_,rfl,rfl⟩:=e;exact b
def Fw{ok:br}{w:bx}{l:aE}{a:bj}{V:bt}(h:cK ok w l a V):okNs l:=okNs_at.2 λt c=>by obtain⟨i,b,rfl⟩:=ub c;exact (qL (h.2.2 i b)).1
mutual
def vaD:Va->bd
 | .mk k n a s args types code=>[.v (.i k),.v (.i n),.v (.i a),.v (.string s),.s 7 (vasD args),.s 2 (tysD types),.s 5 (ndsD code)]
def vasD:an->List bd
 | []=>[]
 | x::xs=>vaD x::vasD xs
end
def vasD_map:∀l:an,vasD l=l.map vaD
 | []=>rfl
 | x::l=>by simp[vasD,vasD_map l]
def Mi(x:Va):(vaD x).length=7:=by cases x;rfl
mutual
def okV:Va->Prop
 | .mk k n a s args types code=>(bD k/\bD n/\bD a/\s.size<=maxLen)/\okVs args/\okTs types/\okNs code
def okVs:an->Prop
 | []=>True
 | x::xs=>okV x/\okVs xs
end
def okVs_at:∀{l:an},okVs l ↔ ∀x∈l,okV x
 | []=>by simp[okVs]
 | x::l=>by simp[okVs,okVs_at (l:=l)]
section
variable {ok:br}{w:bx}
def y9{x:Va}{v:cg}(h:aA ok w x v):∃f ac ta tc na nc,v=bg x.k x.n x.a x.s f x.args.length ac ta x.types.length tc na x.code.length nc/\fI ok w (.s 7 (vasD x.args)) (.slice f x.args.length ac)/\fI ok w (.s 2 (tysD x.types)) (.slice ta x.types.length tc)/\fI ok w (.s 5 (ndsD x.code)) (.slice na x.code.length nc):=by
 induction h with
 | mk V W U hl Q hs ik iN ia O hN P hr R =>
  rename_i k n a s args types code f ta na ac tc nc m;refine⟨f,ac,ta,tc,na,nc,rfl,?_,(qV O m.2).2,uI hN m.1⟩;have l:(vasD args).length=args.length:=Kd
  have p:fI ok w (.s 7 (vasD args)) (.slice f (vasD args).length ac):=by
   have d:∀(i:Nat) (r:bd),(vasD args)[i]?=some r->∃h:i<args.length,r=vaD args[i]:=λi r e=>by rw[vasD_map,qb7,kd]at e;obtain⟨T,g,rfl⟩:=e;obtain⟨h,rfl⟩:=qv.1 g;exact⟨h,rfl⟩
   refine .s (λi j=>((V i).cells[j]?).getD undef) od od (λi r e=>?_) (λi r j x g c=>?_) (λi r j x g c=>?_)
   .obtain⟨h,rfl⟩:=d i r e;exact Mi _
   .obtain⟨h,rfl⟩:=d i r g;obtain⟨b,o,rfl,hb,k',n',X,s',t,G,u,A,jJ,B,y,S,z,q,H,I,J,K,L,M,N⟩:=P i h;have hj:j<7:=by have:=(qv.1 c).1;rwa [Mi]at this
    refine⟨b,o,rfl,hb,?_⟩;rw[q];rw[<-qd6];rcases (show j=0\/j=1\/j=2\/j=3\/j=4\/j=5\/j=6 by omega)with rfl|rfl|rfl|rfl|rfl|rfl|rfl
    .exact H
    .exact I
    .exact J
    .exact K
    .exact L
    .exact M
    .exact N
   .obtain⟨h,rfl⟩:=d i r g;have⟨t,u,A,B,y,z,q,C,E,F⟩:=R i h;rw[q];generalize args[i]=T at c q C E F;have⟨k2,n2,Y,s2,Z,tz,cz⟩:=T;rcases j with _|_|_|_|_|_|_|j
    .simp only[vaD,kA,qk]at c;subst c;exact .v _
    .simp only[vaD,yy,kA,qk]at c;subst c;exact .v _
    .simp only[vaD,yy,kA,qk]at c;subst c;exact .v _
    .simp only[vaD,yy,kA,qk]at c;subst c;exact .v _
    .simp only[vaD,yy,kA,qk]at c;subst c;exact C
    .simp only[vaD,yy,kA,qk]at c;subst c;exact E
    .simp only[vaD,yy,kA,qk]at c;subst c;exact F
    .simp[vaD]at c
  rw[l]at p;exact p
def pF (x:Va):A1:=.agg [.d (.v (.i x.k)),.d (.v (.i x.n)),.d (.v (.i x.a)),.d (.v (.string x.s)),.d (.s 7 (vasD x.args)),.d (.s 2 (tysD x.types)),.d (.s 5 (ndsD x.code))]
def FJ{x:Va}{v:cg}(h:aA ok w x v):gm (λ_=>none) ok w (pF x) v:=by obtain⟨i,j,o,p,l,m,rfl,e,f,g⟩:=y9 h;have⟨k,n,a,s,c,b,d⟩:=x;exact⟨_,rfl,.v _,.v _,.v _,.v _,e,f,g,trivial⟩
def BC{x:Va}{v:cg}(h:aA ok w x v):okV x:=by
 induction h with
 | mk V m l o d e k f g a hN n p j =>
  rename_i b;exact⟨⟨k,f,g,e⟩,okVs_at.2 (λT a=>by obtain⟨i,c,rfl⟩:=ub a;exact j i c),(qV a b.2).1,Fw hN⟩
def rep_rowV:∀(N:Nat) {ts:an}{a:bj}{l c:Nat},vsizes ts<=N->okVs ts->fI ok w (.s 7 (vasD ts)) (.slice a l c)->l=ts.length/\ts.length<=c/\∃V,aT ok w ts a V:=λN=>by
 induction N with
 | zero =>
  intro ts a l c hN u h;have⟨a',c',U,e,h1,h2,h3,f⟩:=fH h;have hz:ts=[]:=by
   cases ts with
   | nil=>rfl
   | cons T ts=>have:=eP T;simp only[vsizes]at hN;omega
  subst hz;simp only[kl]at e;obtain⟨rfl,rfl,rfl⟩:=e;exact⟨rfl,h1,λ_=>.i 0,zE _,λi d=>absurd d ot,λi d=>absurd d ot⟩
 | succ N ih =>
  intro ts a l c hN u h;have⟨a',c',U,e,h1,h2,h3,f⟩:=fH h;have r:(vasD ts).length=ts.length:=Kd
  simp only[kl]at e;obtain⟨rfl,rfl,rfl⟩:=e;have m:∀(i:Nat) (d:i<ts.length),(vasD ts)[i]?=some (vaD ts[i]):=λi d=>by rw[vasD_map,qb7,qn d];rfl
  have t:∀(l:an) (x:Va),x∈l->x.size<=vsizes l:=λl=>by
   induction l with
   | nil=>intro x z;cases z
   | cons y l Z =>
    intro x z;simp only[vsizes];rcases zr.1 z with rfl|z
    .omega
    .have:=Z x z;omega
  have j:∀(i:Nat) (d:i<ts.length),∃v,AX ok w a i v/\aA ok w ts[i] v:=λi d=>by have Y:ts[i]∈ts:=zd d;have hz:=t ts _ Y;have q:=okVs_at.1 u _ Y;have g:=m i d;generalize ts[i]=T at Y hz q g;have⟨k,n,p,s,A,J,H⟩:=T;obtain⟨⟨b,o,rfl,hb,K⟩,r0⟩:=f i _ 0 _ g rfl;have⟨⟨b1,o1,e1,_,L⟩,r1⟩:=f i _ 1 _ g rfl;have⟨⟨b2,o2,e2,_,M⟩,r2⟩:=f i _ 2 _ g rfl;have⟨⟨b3,o3,e3,_,O⟩,r3⟩:=f i _ 3 _ g rfl;have⟨⟨b4,o4,E,_,B⟩,r4⟩:=f i _ 4 _ g rfl;have⟨⟨b5,o5,F,_,C⟩,r5⟩:=f i _ 5 _ g rfl;have⟨⟨b6,o6,G,_,D⟩,r6⟩:=f i _ 6 _ g rfl;simp only[qk,qc7,and_true]at e1 e2 e3 E F G;obtain⟨rfl,rfl⟩:=e1;obtain⟨rfl,rfl⟩:=e2;obtain⟨rfl,rfl⟩:=e3;obtain⟨rfl,rfl⟩:=E;obtain⟨rfl,rfl⟩:=F;obtain⟨rfl,rfl⟩:=G;have⟨aa,ac,_,E,_⟩:=fH r4;have⟨ta,tc,_,F,_⟩:=fH r5;have⟨na,nc,_,G,_⟩:=fH r6;rw[E]at r4 B;rw[F]at r5 C;rw[G]at r6 D;rw[bW r0]at K;rw[bW r1]at L;rw[bW r2]at M;rw[bW r3]at O;have⟨I,q2,q3,q4⟩:=q;simp only[Va.size]at hz;have⟨_,S,V,P⟩:=ih od q2 r4;have⟨_,W,VT,R⟩:=rep_rowT _ (qS _) q3 r5;have⟨_,X,VN,Q⟩:=rep_rowN _ (qS _) q4 r6;rw[show (vasD A).length=A.length by simp[vasD_map]]at B;rw[show (tysD J).length=J.length by simp[tysD_map]]at C;rw[show (ndsD H).length=H.length by simp[ndsD_map]]at D;simp only[<-qd6]at K L M O B C D;exact⟨bg k n p s aa A.length ac ta J.length tc na H.length nc,⟨b,o,rfl,hb,k,n,p,s,aa,A.length,ac,ta,J.length,tc,na,H.length,nc,rfl,K,L,M,O,B,C,D⟩,aA.mk (hnk:=⟨X,W⟩) V VT VN P.1 S I.2.2.2 I.1 I.2.1 I.2.2.1 R Q P.2.1 P.2.2⟩
  refine⟨r,od,λi=>if d:i<ts.length then (j i d).choose else undef,od,λi d=>?_,λi d=>?_⟩
  .simp only[d,dite_true];exact (j i d).choose_spec.1
  .simp only[d,dite_true];exact (j i d).choose_spec.2
end
def qi (l:an):A1:=.one (.d (.s 7 (vasD l)))
def lV{ok:br}{w:bx}{l:an}{n:Nat}{v:cg}(hk:okVs l)(hn:n=7\/l=[])(h:fI ok w (.s n (vasD l)) v):∃a c V,v =.slice a l.length c/\l.length<=c/\aT ok w l a V:=by
 have h:fI ok w (.s 7 (vasD l)) v:=by
  rcases hn with rfl|rfl
  .exact h
  .exact gG h
 have⟨a,c,U,e,_⟩:=fH h;subst e;have⟨f,d,V,b⟩:=rep_rowV _ (qS _) hk h;exact⟨a,c,V,Kd,d,b⟩
def b64 (n:Int):Bool:=decide (-9223372036854775808<=n)&&decide (n<9223372036854775808)
def i64{n:Int}(h:b64 n:=by rfl):bD n:=by unfold b64 at h;rw[qu,kj,kj]at h;unfold bD;omega
def xU{ok:br}{w:bx}{l:aE}{n:Nat}{v:cg}(hk:okNs l)(hn:n=5\/l=[])(h:fI ok w (.s n (ndsD l)) v):∃a c V,v =.slice a l.length c/\l.length<=c/\cK ok w l a V:=by
 have h:fI ok w (.s 5 (ndsD l)) v:=by
  rcases hn with rfl|rfl
  .exact h
  .exact gG h
 have⟨a,c,U,e,_⟩:=fH h;subst e;have⟨f,d,V,b⟩:=rep_rowN _ (qS _) hk h;exact⟨a,c,V,by simp[ndsD_map],d,b⟩
def mR{ok:br}{w:bx}{x:Va}{v:cg}(hk:okV x)(h:gm (λ_=>none) ok w (pF x) v):aA ok w x v:=by
 have⟨k,n,a,s,args,types,code⟩:=x;obtain⟨F,rfl,h⟩:=h
 match F,h with
 | [M,N,O,P,Q,R,S],⟨y,z,A,B,C,D,E,_⟩ =>
  have m:=bW y;have o:=bW z;have p:=bW A;have q:=bW B;subst m o p q;have⟨b,r,t,u⟩:=hk;obtain⟨G,H,V,rfl,f,c⟩:=lV r (.inl rfl) C;obtain⟨K,L,l,rfl,g,e⟩:=jR t (.inl rfl) D;obtain⟨I,J,j,rfl,i,d⟩:=xU u (.inl rfl) E;exact aA.mk (hnk:=⟨i,g⟩) V l j c.1 f b.2.2.2 b.1 b.2.1 b.2.2.1 e d c.2.1 c.2.2
def yu{ok:br}{w:bx}{l:an}{a:bj}{c:Nat}{V:bt}(h:aT ok w l a V)(hc:l.length<=c):fI ok w (.s 7 (vasD l)) (.slice a l.length c):=by have⟨o,p,j,m,f,g,e,i,_⟩:=y9 (aA.mk (hnk:=⟨zE _,zE _⟩) (k:=0) (n:=0) (a:=0) (s:=⟨#[]⟩) (types:=[]) (code:=[]) (ta:=none) (na:=none) (nc:=0) (tc:=0) V V V h.1 hc ov i64 i64 i64 (dw.nil _ _ _ _) (cK.nil _ _ _ _) h.2.1 h.2.2);simp only[bg,qd7,qf0,xo,kl,and_true]at e;have⟨_,_,_,_,⟨b,_,d⟩,_⟩:=e;subst b d;exact i
def TF (post:St):Option (Nat×St×List Sp×Obl)->Option (Nat×List Sp×List Prop×List Prop×List (Option AV))
 | some (e,σ,C,ob)=>if (get σ (1000001,0)).isNone then some (e,C,(ob.filter λp=>!p.1).map (·.2),(ob.filter λp=>p.1).map (·.2),post.map λx=>L6 σ x.1)else none
 | none=>none
def Ll{post:St}{r:Option (Nat×St×List Sp×Obl)}{e:Nat}{f:HL}{ob:List Prop}(h:TF post r=some (e,[],(f.map (·.1)).map (λs=>s.args=s.args),ob,post.map λx=>some x.2))(c:∀p∈ob,p) :
 ∃σ a,r=some (e,σ,[],a)/\(∀p∈a,p.2)/\(∀x∈post,L6 σ x.1=some x.2)/\(get σ (1000001,0)).isNone:=by
 unfold TF at h;split at h<;>try (cases h;done)
 rename_i l σ C a;split at h<;>try (cases h;done)
 rename_i b;simp only[qk,kh]at h;obtain⟨rfl,rfl,g,i,j⟩:=h;refine⟨σ,a,rfl,λp d=>?_,λx k=>?_,b⟩
 .cases hb:p.1 with
  | false =>
   have : p.2∈(a.filter λp=>!p.1).map (·.2):=ud.2 ⟨p,jd2.2 ⟨d,by simp[hb]⟩,rfl⟩;rw[g]at this;have⟨s,_,e⟩:=ud.1 this;exact e ▸ trivial
  | true =>
   have : p.2∈(a.filter λp=>p.1).map (·.2):=ud.2 ⟨p,jd2.2 ⟨d,hb⟩,rfl⟩;rw[i]at this;exact c _ this
 .exact List.map_inj_left.1 j x k
def xQ{nt:Nat}{b:Code}{pre a:St}{e:Nat}(T:Hints)(d:HL){ob:List Prop}(c:∀p∈ob,p)(h:TF a (Dt prog T [] nt b (d.map (·.1)) pre)=some (e+1,[],(d.map (·.1)).map (λs=>s.args=s.args),ob,a.map λx=>some x.2):=by kernel_rfl)(hc:closed a:=by kernel_rfl):vO prog nt ⟨b,pre,e+1,a⟩:=by have⟨σ,l,f,g,i,j⟩:=Ll h c;exact Un mixed (L:=[]) ot f (λs k=>by obtain⟨x,_,rfl⟩:=ud.1 k;exact x.2) g i hc j
def LG{nt:Nat}{a:Code}{pre b pre2:St}{ex:Nat}(T:Hints)(d:HL){ob:List Prop}(j:vO prog nt ⟨a,pre2,ex,b⟩)(c:∀p∈ob,p)(h:TF pre2 (Dt prog T [] nt a (d.map (·.1)) pre)=some (0,[],(d.map (·.1)).map (λs=>s.args=s.args),ob,pre2.map λx=>some x.2):=by kernel_rfl)(hc:closed pre2:=by kernel_rfl):vO prog nt ⟨a,pre,ex,b⟩:=by have⟨σ,l,e,f,g,i⟩:=Ll h c;exact Uo mixed (L:=[]) ot e (λs k=>by obtain⟨x,_,rfl⟩:=ud.1 k;exact x.2) f g hc i j
def aa7{nt:Nat}{b:Code}{pre a:St}{e:Nat}(T:Hints)(L:List Lp)(k:∀l∈L,vO prog nt l)(d:HL){ob:List Prop}(c:∀p∈ob,p)(h:TF a (Dt prog T L nt b (d.map (·.1)) pre)=some (e+1,[],(d.map (·.1)).map (λs=>s.args=s.args),ob,a.map λx=>some x.2):=by kernel_rfl)(hc:closed a:=by kernel_rfl):vO prog nt ⟨b,pre,e+1,a⟩:=by have⟨σ,n,f,g,i,j⟩:=Ll h c;exact Un mixed k f (λs m=>by obtain⟨x,_,rfl⟩:=ud.1 m;exact x.2) g i hc j
def aaf{nt:Nat}{a:Code}{pre b pre2:St}{ex:Nat}(T:Hints)(L:List Lp)(j:∀l∈L,vO prog nt l)(d:HL){ob:List Prop}(k:vO prog nt ⟨a,pre2,ex,b⟩)(c:∀p∈ob,p)(h:TF pre2 (Dt prog T L nt a (d.map (·.1)) pre)=some (0,[],(d.map (·.1)).map (λs=>s.args=s.args),ob,pre2.map λx=>some x.2):=by kernel_rfl)(hc:closed pre2:=by kernel_rfl):vO prog nt ⟨a,pre,ex,b⟩:=by have⟨σ,n,e,f,g,i⟩:=Ll h c;exact Uo mixed j e (λs m=>by obtain⟨x,_,rfl⟩:=ud.1 m;exact x.2) f g hc i k
abbrev kX (f:Func) (i:Nat):Code:=((loopsOf (f.body.getD .skip))[i]?).getD .skip
abbrev jA (m:Nat):A1:=.one (.d (.v (.i (.ofNat m))))
def mD (x:AV) (a:A1):Prop:=some x=some (.of a)
def Bc{α:Type} : ∀(n:Nat) (l:List α),n<=l.length->xw n l=some (l.drop n)
 | 0,l,_=>rfl
 | n+1,x::l,h=>Bc n l (by simpa using h)
def Cu{α:Type} : ∀(n:Nat) (l:List α),n<=l.length->nH n l=some (l.take n)
 | 0,l,_=>rfl
 | n+1,x::l,h=>by simp[nH,Cu n l (by simpa using h)]
def eY(s:ao):(tysD s).length=s.length:=by simp[tysD_map]
def Er(s:ao)(k:Nat):(tysD s).drop k=tysD (s.drop k):=by simp[tysD_map,List.map_drop]
def Es(s:ao)(k:Nat):(tysD s).take k=tysD (s.take k):=by simp[tysD_map,List.map_take]
def is_le{a b:Int}(h:a<=b):mD (aQ (decide (a<=b))) (bA true):=by simp[mD,h,aQ,bA]
def QA{a b:Int}(h:¬a<=b):mD (aQ (decide (a<=b))) (bA false):=by simp[mD,h,aQ,bA]
def is_lt{a b:Int}(h:a<b):mD (aQ (decide (a<b))) (bA true):=by simp[mD,h,aQ,bA]
def wH{a b:Int}(h:¬a<b):mD (aQ (decide (a<b))) (bA false):=by simp[mD,h,aQ,bA]
def yY{a b:Int}(h:a=b):mD (lW a) (iA b):=by rw[h];rfl
def OQ (s:ao) (m:Nat) (t:Int) (a:ao):Prop:=Bp 2 2 (tysD s) m=some (.of (.one (.e (tyD (.nd t a)) 0)))
def EK{s:ao}{m:Nat}{t:Int}{a:ao}(h:s[m]?=some (.nd t a)):OQ s m t a:=by unfold OQ Bp;rw[tysD_map,qb7,h];rfl
def Qf{s:ao}{m:Nat}(h:m<=s.length):qA 2 (tysD s) (some 0) (some (some m))=some (.of (dZ (s.take m))):=by simp only[qA];rw[Cu _ _ (by rw[eY];exact h),Es];rfl
def Qg{s:ao}{m:Nat}(h:m<=s.length):qA 2 (tysD s) (some m) (some none)=some (.of (dZ (s.drop m))):=by simp only[qA];rw[Bc _ _ (by rw[eY];exact h),Er];rfl
def TU{s:ao}{l m:Nat}(h:m<=s.length)(a:l<=m):qA 2 (tysD s) (some l) (some (some m))=some (.of (dZ ((s.take m).drop l))):=by simp only[qA];rw[Cu _ _ (by rw[eY];exact h),Es,Option.bind_some,Bc _ _ ZD,Er];rfl
def zF{a b:Int}(h:a=b)(c:0<=b)(d:b<=1000000000):IntKind.i64.wrap a=b:=by subst h;rw[qb1];omega
def al0:∀q∈([]:List Prop),q:=λq h=>by simp at h
def al{p:Prop}{ps:List Prop}(h:p)(t:∀q∈ps,q):∀q∈p::ps,q:=λq a=>by
 rcases zr.1 a with rfl|a
 .exact h
 .exact t q a
def nq (a k:Int):Prop:=some (aQ (decide (a=k)))=some (.of (bA false))
def oL{a k:Int}(h:a≠k):nq a k:=by simp[nq,h,aQ,bA]
abbrev fA:A1:=bA false
def jJ (b v:Bool):Prop:=some (aQ b)=some (.of (bA v))
def eT{b v:Bool}(h:b=v):jJ b v:=by rw[h];rfl
def wI{S:St}{q:Prop}(b:q){ps:List Prop}(h:∀p∈ps,p):∀p∈ps++(q::S.map (λx=>some x.2=some x.2)),p:=λp a=>by
 rcases xb.1 a with a|a
 .exact h p a
 .rcases zr.1 a with rfl|a
  .exact b
  .obtain⟨x,_,rfl⟩:=ud.1 a;rfl
def LH{ok:br}{w:bx}{t:Tr}{v:cg}(h:bI ok w t v):okN t/\gm (λ_=>none) ok w (ndA t) v:=by obtain⟨hk,k,n,p,s,a,c,e,rfl,b⟩:=qL h;refine⟨hk,?_⟩;rw[e];exact⟨_,rfl,.v _,.v _,.v _,.v _,by rw[<-e];exact b,trivial⟩
def U6{ok:br}{w:bx}{l:an}{a:bj}{V:bt}(h:aT ok w l a V):okVs l:=okVs_at.2 λx c=>by obtain⟨i,b,rfl⟩:=ub c;exact BC (h.2.2 i b)
abbrev gF (f:Func):Code:=(loopOf (f.body.getD .skip)).getD .skip
def Xk {α:Type} : List (Bool×α)->List α
 | []=>[]
 | (true,x)::l=>x::Xk l
 | (false,_)::l=>Xk l
def IM{b:Bool}{p:Prop}{l:List (Bool×Prop)}(h:p)(t:∀q∈Xk l,q):∀q∈Xk ((b,p)::l),q:=by
 cases b with
 | false=>exact t
 | true=>exact al h t
def gW (p:Int) (args:aE):Tr:=.nd 2 0 p ⟨#[]⟩ args
def eltT:Tr->Tr
 | .nd k n p s args=>.nd k n 28 s args
def Tr.k0:Tr->Int
 | .nd k _ _ _ _=>k
def Tr.n0:Tr->Int
 | .nd _ n _ _ _=>n
def Tr.p0:Tr->Int
 | .nd _ _ p _ _=>p
def Tr.s0:Tr->bo
 | .nd _ _ _ s _=>s
def aL (x:Va) (l:aE):Tr :=
 if x.k=1 then gW 20 []else if x.k=2 then gW (if x.n=0 then 22 else 21) []
 else if x.k=3\/x.k=4\/x.k=5\/x.k=7 then .nd 0 x.n 0 ⟨#[]⟩ []else if x.k=6 then .nd 1 0 0 x.s []
 else if x.k=9 then gW (if l.length=0 then 27 else 26) l else if x.k=11 then gW 23 l
 else if x.k=12 then gW (if x.n=0 then 24 else 25) l else if x.k=10 then .nd 3 0 0 ⟨#[]⟩ l
 else if x.k=13 then .nd 3 0 0 ⟨#[]⟩ (l.map eltT)else .nd (-1) 0 0 ⟨#[]⟩ []
mutual
def dataT:Va->Tr
 | .mk k n a s args ty co=>aL (.mk k n a s args ty co) (dataTs args)
def dataTs:an->aE
 | []=>[]
 | x::xs=>dataT x::dataTs xs
end
def dL (T:Ty) (p:Int):Option (Int×ao) :=
 if T.t=1/\p=20 then some (0,[])else if T.t=2/\p=22 then some (0,[])else if T.t=2/\p=21 then some (1,[])
 else if T.t=9/\p=27 then some (0,[])else if T.t=9/\p=26 then some (0,T.args)else if T.t=11/\p=23 then some (0,T.args)
 else if T.t=12/\p=24 then some (0,T.args.take 1)else if T.t=12/\p=25 then some (1,T.args.drop 1)else none
def fM (t n:Int) (s:bo) (l:an):Va:=.mk t n 0 s l [] []
mutual
def readT:Tr->Ty->Option Va
 | .nd k n p s args,T =>
  if T.t=3\/T.t=4\/T.t=5\/T.t=7 then (if k=0 then some (fM T.t n ⟨#[]⟩ [])else none)
  else if T.t=6 then (if k=1 then some (fM 6 0 s [])else none)
  else if T.t=10 then (if k=3 then (readTs args (List.replicate args.length (bB T.args 0))).map (fM 10 0 ⟨#[]⟩)else none)
  else if T.t=13 then (if k=3 then (readEs args T.args).map (fM 13 0 ⟨#[]⟩)else none)
  else match dL T p with
   | none=>none
   | some (m,ts)=>(readTs args ts).map (fM T.t m ⟨#[]⟩)
def readTs:aE->ao->Option an
 | [],[]=>some []
 | t::l,T::ts=>match readT t T with
  | none=>none
  | some x=>(readTs l ts).map (x :: ·)
 | [],_::_=>none
 | _::_,[]=>none
def readEs:aE->ao->Option an
 | [],_=>some []
 | .nd k n p s args::l,ts=>match readTs args ts with
  | none=>none
  | some ys=>if p=28 then (readEs l ts).map (fM 11 0 ⟨#[]⟩ ys :: ·)else none
end
def Va.eta(x:Va):x =.mk x.k x.n x.a x.s x.args x.types x.code:=by cases x;rfl
def oU{T:Ty}(hc:eB T):(T.t≠8/\T.t≠14/\T.t≠15)/\∀y∈T.args,eB y:=by have⟨t,c⟩:=T;simp only[eB,sW,qu,Bq,Bool.not_true,Bool.false_or]at hc;have⟨b,a⟩:=hc;simp only[LU,kj]at b;rw[yL,kB]at a;exact⟨b,a⟩
def uh{d:Nat}{T:Ty}(h:j5 d T):1<=T.t/\T.t<=15:=by have⟨t,a⟩:=T;simp only[j5,qu,jH,kj]at h;exact h.1.2.1
def nY{T:Ty}{x:Va}(w:hasV x T)(hc:eB T) :
 x.k=T.t/\x.a=0/\x.types=[]/\x.code=[]/\(T.t≠6->x.s=⟨#[]⟩)/\bQ T.t x.n/\∃ts,bS T x=some ts/\hasVs x.args ts:=by
 have⟨v,u⟩:=oU hc;have⟨j,ts,o,l⟩:=Bo w;unfold eX at j;simp only[qu,kj,qe0]at j;have⟨⟨⟨⟨⟨hk,hN⟩,r⟩,m⟩,b⟩,i⟩:=j;have g:x.a=0:=by
  rcases r with h|h
  .exact h
  .exact absurd h.1 od
 have e:x.types=[]:=by unfold eZ at b;rw[oa,oa]at b;exact jx (by simpa using b)
 have c:x.code=[]:=by
  rcases i with h|h
  .exact jx h
  .exact absurd h od
 refine⟨hk,g,e,c,λq=>?_,hN,ts,o,l⟩;have p:x.s.size=0:=by
  rcases m with h|h
  .exact h
  .exact absurd h.1 q
 have f:x.s.data=#[]:=Array.eq_empty_of_size_eq_zero p
 cases y:x.s with
 | mk d=>rw[y]at f;simp at f;rw[f]
def jr{x:Va}{t n:Int}{s:bo}(hk:x.k=t)(hn:x.n=n)(b:x.a=0)(c:x.s=s)(d:x.types=[])(hc:x.code=[]):fM t n s x.args=x:=by rw[Va.eta x,hk,hn,b,c,d,hc];rfl
def dataTs_len:∀l:an,(dataTs l).length=l.length
 | []=>rfl
 | x::l=>by simp[dataTs,dataTs_len l]
def Gs(x:Va):dataT x=aL x (dataTs x.args):=by cases x;rw[dataT];rfl
def LK{T:Ty}{x:Va}{d:Nat}{ts:ao}(b:j5 d T)(g:T.t<=7)(a:bS T x=some ts):x.args=[]:=by
 have⟨c,_⟩:=jU b;have⟨e,_⟩:=uh b;have f:bT T.t=0:=Xs
 unfold bS at a;simp only at a;rw[oa,oa,oa,oa,oa,oa]at a;split at a
 .rename_i h;exact jx od
 .cases a
def Fs{T:Ty}{x:Va}{d:Nat}(O:hasV x T)(H:eB T)(z:j5 d T)
 (IH:∀ts d,hasVs x.args ts->(∀U∈ts,eB U/\j5 d U)->readTs (dataTs x.args) ts=some x.args)
 (IE:∀us d,hasVs x.args (List.replicate x.args.length (.nd 11 us))->(∀U∈us,eB U/\j5 d U)->us.length=2->readEs ((dataTs x.args).map eltT) us=some x.args) :
 readT (aL x (dataTs x.args)) T=some x:=by
 have⟨hk,m,f,b,v,hN,ts,a,l⟩:=nY O H;have⟨N,F⟩:=oU H;have⟨j,C⟩:=jU z;have I:=uh z;have i:∀U∈T.args,eB U/\j5 (d+1) U:=λU u=>⟨F U u,C U u⟩
 by_cases J:T.t<=7
 .have s:=LK z J a;rcases (show T.t=1\/T.t=2\/T.t=3\/T.t=4\/T.t=5\/T.t=6\/T.t=7 from by omega)with h|h|h|h|h|h|h
  all_goals
   have L:x.k=T.t:=hk;rw[h]at hk hN
  .have g:x.n=0:=by simpa[bQ]using hN
   have e:=jr hk g m (v od) f b;rw[s]at e;simp[aL,hk,gW,readT,h,dL,readTs,e]
  .have g:x.n=0\/x.n=1:=by simpa[bQ]using hN
   rcases g with g|g
   .have e:=jr hk g m (v od) f b;rw[s]at e;simp[aL,hk,g,gW,readT,h,dL,readTs,e]
   .have e:=jr hk g m (v od) f b;rw[s]at e;simp[aL,hk,g,gW,readT,h,dL,readTs,e]
  .have e:=jr hk rfl m (v od) f b;rw[s]at e;simp[aL,hk,readT,h,e]
  .have e:=jr hk rfl m (v od) f b;rw[s]at e;simp[aL,hk,readT,h,e]
  .have e:=jr hk rfl m (v od) f b;rw[s]at e;simp[aL,hk,readT,h,e]
  .have g:x.n=0:=by simpa[bQ]using hN
   have e:=jr hk g m rfl f b;rw[s]at e;simp[aL,hk,readT,h,e]
  .have e:=jr hk rfl m (v od) f b;rw[s]at e;simp[aL,hk,readT,h,e]
 .have p:=v od;rcases (show T.t=9\/T.t=10\/T.t=11\/T.t=12\/T.t=13 from by omega)with h|h|h|h|h
  all_goals
   rw[h]at hk hN
  .have g:x.n=0:=by simpa[bQ]using hN
   have e:=jr hk g m p f b;have K:=dataTs_len x.args
   by_cases s:x.args.length=0
   .have y:x.args=[]:=jx s;rw[y]at e;simp[aL,hk,y,dataTs,gW,readT,h,dL,readTs,e]
   .have c:ts=T.args:=by
     unfold bS at a;simp only at a;rw[oa,oa,oa,oa,oa,oa]at a;split at a
     .exact (jh2 a).symm
     .cases a
    subst c;have q:=IH T.args (d+1) l i;have E:¬(dataTs x.args).length=0:=od
    have r:aL x (dataTs x.args)=gW 26 (dataTs x.args):=by unfold aL;rw[oa,oa,oa,oa,if_pos hk,if_neg E]
    rw[r];simp[gW,readT,h,dL,q,e]
  .have g:x.n=0:=by simpa[bQ]using hN
   have e:=jr hk g m p f b;have c:ts=List.replicate x.args.length (bB T.args 0):=by
    unfold bS at a;simp only at a;rw[oa,oa,if_pos h]at a;split at a
    .exact (jh2 a).symm
    .cases a
   subst c;have M:T.args.length=1:=by rw[h]at j;simp[bT]at j;omega
   have D:bB T.args 0∈T.args:=by unfold bB;rw[qn od];exact zd _
   have q:=IH _ (d+1) l (λU u=>by rw[qe1 u];exact i _ D);have r:aL x (dataTs x.args) =.nd 3 0 0 ⟨#[]⟩ (dataTs x.args):=by unfold aL;rw[oa,oa,oa,oa,oa,oa,oa,if_pos hk]
   rw[r];simp[readT,h,dataTs_len,q,e]
  .have g:x.n=0:=by simpa[bQ]using hN
   have e:=jr hk g m p f b;have c:ts=T.args:=by
    unfold bS at a;simp only at a;rw[oa,oa,oa,oa,oa,oa]at a;split at a
    .exact (jh2 a).symm
    .cases a
   subst c;have q:=IH T.args (d+1) l i;have r:aL x (dataTs x.args)=gW 23 (dataTs x.args):=by unfold aL;rw[oa,oa,oa,oa,oa,if_pos hk]
   rw[r];simp[gW,readT,h,dL,q,e]
  .have g:x.n=0\/x.n=1:=by simpa[bQ]using hN
   have w:T.args.length=2:=by rw[h]at j;simp[bT]at j;omega
   have c:ts=[bB T.args x.n.toNat]:=by
    unfold bS at a;simp only at a;rw[oa,oa,oa,oa,if_pos h]at a;split at a
    .exact (jh2 a).symm
    .cases a
   subst c;have⟨A,B,o⟩:∃A B,T.args=[A,B]:=by
    match T.args,w with
    | [A,B],_=>exact⟨A,B,rfl⟩
   rcases g with g|g
   .have e:=jr hk g m p f b;have G:bB T.args x.n.toNat=A:=by rw[g,o];rfl
    rw[G]at l;have q:=IH [A] (d+1) l (λU u=>by simp at u;subst u;exact i U (by rw[o];simp));have r:aL x (dataTs x.args)=gW 24 (dataTs x.args):=by unfold aL;rw[oa,oa,oa,oa,oa,oa,if_pos hk,if_pos g]
    rw[r];simp[gW,readT,h,dL,o,q,e]
   .have e:=jr hk g m p f b;have G:bB T.args x.n.toNat=B:=by rw[g,o];rfl
    rw[G]at l;have q:=IH [B] (d+1) l (λU u=>by simp at u;subst u;exact i U (by rw[o];simp));have r:aL x (dataTs x.args)=gW 25 (dataTs x.args):=by unfold aL;rw[oa,oa,oa,oa,oa,oa,if_pos hk,oa]
    rw[r];simp[gW,readT,h,dL,o,q,e]
  .have g:x.n=0:=by simpa[bQ]using hN
   have e:=jr hk g m p f b;have w:T.args.length=2:=by rw[h]at j;simp[bT]at j;omega
   have c:ts=List.replicate x.args.length (.nd 11 T.args):=by
    unfold bS at a;simp only at a;rw[oa,oa,oa,if_pos h]at a;split at a
    .exact (jh2 a).symm
    .cases a
   subst c;have q:=IE T.args (d+1) l i w;have r:aL x (dataTs x.args) =.nd 3 0 0 ⟨#[]⟩ ((dataTs x.args).map eltT):=by unfold aL;rw[oa,oa,oa,oa,oa,oa,oa,oa,if_pos hk]
   rw[r];simp[readT,h,q,e]
def XR{T:Ty}{x:Va}{ts:ao}(h:T.t=11)(a:bS T x=some ts):ts=T.args:=by
 unfold bS at a;simp only at a;rw[oa,oa,oa,oa,oa,oa]at a;split at a
 .exact (jh2 a).symm
 .cases a
def D9{us:ao}{d:Nat}(h:∀U∈us,eB U/\j5 d U):eB (.nd 11 us):=by simp only[eB,sW,Bq,Bool.not_true,Bool.false_or,qu];refine⟨ov,?_⟩;rw[yL,kB];exact λU a=>(h U a).1
mutual
def read_back:∀(x:Va) (T:Ty) (d:Nat),hasV x T->eB T->j5 d T->readT (dataT x) T=some x
 | .mk k n a s b o m,T,d=>by intro i h g;rw[Gs];exact Fs i h g (λj d c e=>reads_back b j d c e) (λl d c e f=>elts_back b l d c e f)
def reads_back:∀(xs:an) (ts:ao) (d:Nat),hasVs xs ts->(∀U∈ts,eB U/\j5 d U)->readTs (dataTs xs) ts=some xs
 | [],[],_=>by intros;simp[dataTs,readTs]
 | [],_::_,_=>by intro h;simp[hasVs]at h
 | _::_,[],_=>by intro h;simp[hasVs]at h
 | x::xs,T::ts,d=>by intro b a;simp only[hasVs,qu]at b;have c:=read_back x T d b.1 (a T ot).1 (a T ot).2;have e:=reads_back xs ts d b.2 (λU f=>a U (by simp[f]));simp[dataTs,readTs,c,e]
def elts_back:∀(xs:an) (us:ao) (d:Nat),hasVs xs (List.replicate xs.length (.nd 11 us))->(∀U∈us,eB U/\j5 d U)->us.length=2->readEs ((dataTs xs).map eltT) us=some xs
 | [],_,_=>by intros;simp[dataTs,readEs]
 | .mk k n a s b h g::xs,us,d=>by
  intro p l y;simp only[jt,List.replicate_succ,hasVs,qu]at p;have⟨hk,x,o,i,A,w,q,m,j⟩:=nY p.1 (D9 l);have z:(Va.mk k n a s b h g).n=0:=by simpa[bQ,Ty.t]using w
  have f:q=us:=by exact XR rfl m
  subst f;have u:=reads_back b q d j l;have v:=elts_back xs q d p.2 l y;have c:(Va.mk k n a s b h g).k=11:=hk;have e:=jr c z x (A vp) o i;have B:dataT (.mk k n a s b h g)=gW 23 (dataTs b):=by rw[Gs];unfold aL;rw[oa,oa,oa,oa,oa,if_pos c];rfl
  have r:fM 11 0 ⟨#[]⟩ b =.mk k n a s b h g:=e;simp[dataTs,B,gW,eltT,readEs,u,v,r]
end
mutual
def cntV:Va->Nat
 | .mk _ _ _ _ args _ _=>cntVs args+1
def cntVs:an->Nat
 | []=>0
 | x::xs=>cntV x+cntVs xs
end
mutual
def jg (c:Nat):Va->Nat×Tr
 | .mk k n a s args ty co=>((dJ (c+1) args).1,aL (.mk k n a s args ty co) (dJ (c+1) args).2)
def dJ (c:Nat):an->Nat×aE
 | []=>(c,[])
 | x::xs=>if 300<c then (c,[])else ((dJ (jg c x).1 xs).1,(jg c x).2::(dJ (jg c x).1 xs).2)
end
def Qb(x:Va):1<=cntV x:=by cases x;simp[cntV]
mutual
def tell_full:∀(x:Va) (c:Nat),c+cntV x<=301->jg c x=(c+cntV x,dataT x)
 | .mk k n a s b f e,c=>by intro h;rw[cntV]at h;have d:=tells_full b (c+1) od;rw[jg,d,cntV,dataT];simp only[kh,and_true];omega
def tells_full:∀(xs:an) (c:Nat),c+cntVs xs<=301->dJ c xs=(c+cntVs xs,dataTs xs)
 | [],c=>by intro _;simp[dJ,cntVs,dataTs]
 | x::xs,c=>by intro h;rw[cntVs]at h;have d:=Qb x;have b:=tell_full x c od;have a:=tells_full xs (c+cntV x) od;rw[dJ,oa,b,a,cntVs,dataTs];simp only[kh,and_true];omega
end
mutual
def tell_most:∀(x:Va) (c:Nat),c<=300->c<(jg c x).1/\(jg c x).1<=301/\(301<=c+cntV x->(jg c x).1=301)
 | .mk k n a s b m f,c=>by
  intro h;rw[jg,cntV]
  by_cases j:c+1<=300
  .have⟨g,i,d⟩:=tells_most b (c+1) od;exact⟨vu,vu,λl=>by simp only;exact d od⟩
  .have e:c+1=301:=by omega
   rw[e]
   cases b with
   | nil=>simp[dJ,cntVs];omega
   | cons x o=>simp[dJ];omega
def tells_most:∀(xs:an) (c:Nat),c<=300->c<=(dJ c xs).1/\(dJ c xs).1<=301/\(301<=c+cntVs xs->(dJ c xs).1=301)
 | [],c=>by intro h;simp[dJ,cntVs];omega
 | x::xs,c=>by
  intro h;have⟨i,j,b⟩:=tell_most x c h;rw[dJ,oa,cntVs];simp only
  by_cases d:(jg c x).1<=300
  .have⟨l,g,a⟩:=tells_most xs (jg c x).1 d;refine⟨od,g,λk=>?_⟩
   by_cases f:301<=c+cntV x
   .have:=b f;omega
   .have e:=tell_full x c od;rw[e]at a|-;exact a vu
  .have e:(jg c x).1=301:=by omega
   rw[e]
   cases xs with
   | nil=>simp[dJ];omega
   | cons y m=>simp[dJ];omega
end
def qm (t:Tr):Prop:=∀d,bC d t=0\/bC d t=4
def firsts_ok:∀{l:aE},(∀t∈l,qm t)->∀d,bG d l=0\/bG d l=4
 | [],_,d=>by simp[bG]
 | t::l,h,d=>by
  rw[bG];rcases h t ot d with a|a
  .rw[if_neg (by simpa using a)];exact firsts_ok (λz hz=>h z (by simp[hz])) d
  .rw[if_pos (by rw[a];decide)];exact .inr a
def xW{k n p:Int}{s:bo}{l:aE}(b:Lf.fD k n p s l.length=0)(h:∀t∈l,qm t):qm (.nd k n p s l):=by
 intro d;rw[bC]
 by_cases a:24<d
 .rw[if_pos a];exact .inr rfl
 .rw[if_neg a,if_neg (by simpa using b)];exact firsts_ok h (d+1)
def KT(p:Int)(h:Lf.gD p)(l:Nat):Lf.fD 2 0 p ⟨#[]⟩ l=0:=by unfold Lf.fD;rw[if_neg ov,if_neg (by rw[h];simp),if_neg (by simp[Lf.qM];rfl),oa,if_neg ov]
def Ez(l:Nat):Lf.fD 3 0 0 ⟨#[]⟩ l=0:=ON
def OP(n:Int)(h:-1152921504606846976<=n/\n<=1152921504606846976):Lf.fD 0 n 0 ⟨#[]⟩ 0=0:=ON
def KV(s:bo)(h:s.size<=200):Lf.fD 1 0 0 s 0=0:=by unfold Lf.fD;rw[if_neg ov,oa,if_neg (by simp[Lf.qM]),oa,oa]
def vD{p:Int}{l:aE}(a:Lf.gD p)(h:∀t∈l,qm t):qm (gW p l):=xW (KT p a _) h
def Qj(t:Tr):(eltT t).size=t.size:=by cases t;simp[eltT,Tr.size]
def elts_size:∀l:aE,sizes (l.map eltT)=sizes l
 | []=>rfl
 | t::l=>by simp[sizes,Qj,elts_size l]
def Sc{T:Ty}{x:Va}{d:Nat}{ts:ao}(A:hasV x T)(q:eB T)(h:j5 d T)(a:bS T x=some ts):∀U∈ts,eB U/\∃k,j5 k U:=by
 have⟨hk,C,z,s,E,o,B,r,u⟩:=nY A q;have⟨y,j⟩:=oU q;have⟨b,i⟩:=jU h;have c:∀U∈T.args,eB U/\∃k,j5 k U:=λU e=>⟨j U e,d+1,i U e⟩;unfold bS at a;simp only at a;rw[oa]at a;intro U e;split at a
 .simp only[qk]at a;subst a;simp at e
 .split at a
  .rename_i l;split at a
   .simp only[qk]at a;subst a;rw[qe1 e];have v:T.args.length=1:=by rw[l]at b;simp[bT]at b;omega
    exact c _ (by unfold bB;rw[qn od];exact zd _)
   .cases a
  .split at a
   .rename_i g;split at a
    .simp only[qk]at a;subst a;rw[qe1 e];refine⟨D9 (d:=d+1) (λV p=>⟨j V p,i V p⟩),d,?_⟩;have⟨t,m⟩:=T;simp only[Ty.t]at g;subst g;simp only[j5,qu,kj,Ty.args]at h|-;refine⟨⟨h.1.1,ov,?_⟩,h.2⟩;have:=h.1.2.2;simp[bT]at this|-;exact this
    .cases a
   .split at a
    .rename_i f;split at a
     .simp only[qk]at a;subst a;simp only[js]at e;subst e;have w:T.args.length=2:=by rw[f]at b;simp[bT]at b;omega
      have D:x.n=0\/x.n=1:=by rw[f]at o;simpa[bQ]using o
      exact c _ (by unfold bB;rw[qn od];exact zd _)
     .cases a
    .rw[oa]at a;split at a
     .simp only[qk]at a;subst a;exact c U e
     .cases a
def yJ (t:Tr):Prop:=∃l',t=gW 23 l'/\∀u∈l',qm u
def KF{T:Ty}{x:Va}(b:hasV x T)(c:T.t=6):x.s.size<=200:=by
 have⟨a,_⟩:=Bo b;unfold eX at a;simp only[qu,kj,qe0]at a;rcases a.1.1.2 with h|h
 .omega
 .exact h.2
def CF{T:Ty}{x:Va}{d:Nat}(j:hasV x T)(i:eB T)(g:j5 d T)(l:aE)(k:x.args=[]->l=[])(a:∀t∈l,qm t)(v:T.t=13->∀t∈l,yJ t) :
 qm (aL x l)/\(aL x l).size=sizes l+1/\(T.t=11->yJ (aL x l)):=by
 have⟨hk,C,A,q,D,hN,F,f,r⟩:=nY j i;have⟨y,w⟩:=oU i;have m:=uh g
 by_cases o:T.t<=7
 .have c:=k (LK g o f);subst c;rcases (show T.t=1\/T.t=2\/T.t=3\/T.t=4\/T.t=5\/T.t=6\/T.t=7 from by omega)with h|h|h|h|h|h|h
  all_goals
   rw[h]at hk hN;refine⟨?_,?_,λe=>od⟩
  .simp only[aL,hk,if_true];exact vD rfl a
  .simp[aL,hk,gW,Tr.size,sizes]
  .have e:aL x []=gW (if x.n=0 then 22 else 21) []:=by unfold aL;rw[oa,if_pos hk]
   rw[e];split<;>exact vD rfl a
  .have e:aL x []=gW (if x.n=0 then 22 else 21) []:=by unfold aL;rw[oa,if_pos hk]
   rw[e];simp[gW,Tr.size,sizes]
  all_goals first
   | (have e:aL x [] =.nd 0 x.n 0 ⟨#[]⟩ []:=(by unfold aL;rw[oa,oa,oc])
      rw[e]
      first
       | exact xW (OP x.n (by simp[bQ,kE,gN,lY]at hN;omega)) a
       | simp[Tr.size,sizes])
   | (have e:aL x [] =.nd 1 0 0 x.s []:=(by unfold aL;rw[oa,oa,oa,oc])
      rw[e]
      first
       | exact xW (KV x.s (KF j h)) a
       | simp[Tr.size,sizes])
 .rcases (show T.t=9\/T.t=10\/T.t=11\/T.t=12\/T.t=13 from by omega)with h|h|h|h|h
  all_goals
   rw[h]at hk hN
  .have e:aL x l=gW (if l.length=0 then 27 else 26) l:=by unfold aL;rw[oa,oa,oa,oa,if_pos hk]
   rw[e];exact⟨by split<;>exact vD rfl a,by simp[gW,Tr.size],λe=>od⟩
  .have e:aL x l =.nd 3 0 0 ⟨#[]⟩ l:=by unfold aL;rw[oa,oa,oa,oa,oa,oa,oa,if_pos hk]
   rw[e];exact⟨xW (Ez _) a,by simp[Tr.size],λe=>od⟩
  .have e:aL x l=gW 23 l:=by unfold aL;rw[oa,oa,oa,oa,oa,if_pos hk]
   rw[e];exact⟨vD rfl a,by simp[gW,Tr.size],λ_=>⟨l,rfl,a⟩⟩
  .have e:aL x l=gW (if x.n=0 then 24 else 25) l:=by unfold aL;rw[oa,oa,oa,oa,oa,oa,if_pos hk]
   rw[e];exact⟨by split<;>exact vD rfl a,by simp[gW,Tr.size],λe=>od⟩
  .have e:aL x l =.nd 3 0 0 ⟨#[]⟩ (l.map eltT):=by unfold aL;rw[oa,oa,oa,oa,oa,oa,oa,oa,if_pos hk]
   rw[e];refine⟨xW (Ez _) (λt z=>?_),by simp[Tr.size,elts_size],λe=>od⟩;obtain⟨u,B,rfl⟩:=ud.1 z;obtain⟨E,rfl,b⟩:=v h u B;exact vD (p:=28) rfl b
def Sg{T:Ty}{x:Va}{ts:ao}(h:T.t=13)(a:bS T x=some ts):∀U∈ts,U.t=11:=by
 unfold bS at a;simp only at a;rw[oa,oa,oa,if_pos h]at a;split at a
 .simp only[qk]at a;subst a;intro U b;rw[qe1 b];rfl
 .cases a
def KE(c:Nat):(dJ c []).2=[]:=by simp[dJ]
mutual
def tell_ok:∀(x:Va) (T:Ty) (d c:Nat),hasV x T->eB T->j5 d T->qm (jg c x).2/\(jg c x).2.size+c=(jg c x).1/\(T.t=11->yJ (jg c x).2)
 | .mk k n a s b F A,T,d,c=>by intro j i l;have⟨hk,D,u,q,E,C,v,f,g⟩:=nY j i;have⟨o,B,p⟩:=tells_ok b v (c+1) g (Sc j i l f);have⟨w,y,z⟩:=CF j i l (dJ (c+1) b).2 (λe=>by have m:b=[]:=e;rw[m,KE]) o (λh t r=>p (Sg h f) t r);rw[jg];exact⟨w,by simp only;rw[y];omega,z⟩
def tells_ok:∀(xs:an) (ts:ao) (c:Nat),hasVs xs ts->(∀U∈ts,eB U/\∃d,j5 d U)->(∀t∈(dJ c xs).2,qm t)/\sizes (dJ c xs).2+c=(dJ c xs).1/\((∀U∈ts,U.t=11)->∀t∈(dJ c xs).2,yJ t)
 | [],_,c=>by intros;simp[dJ,sizes]
 | _::_,[],_=>by intro h;simp[hasVs]at h
 | x::xs,T::ts,c=>by
  intro g i;simp only[hasVs,qu]at g;have⟨f,d,e⟩:=i T ot;have⟨j,n,k⟩:=tell_ok x T d c g.1 f e;have⟨l,o,m⟩:=tells_ok xs ts (jg c x).1 g.2 (λU b=>i U (by simp[b]));rw[dJ];split
  .simp[sizes]
  .refine⟨?_,?_,?_⟩
   .intro t a;rcases zr.1 a with rfl|a
    .exact j
    .exact l t a
   .simp only[sizes];omega
   .intro h t a;rcases zr.1 a with rfl|a
    .exact k (h T ot)
    .exact m (λU b=>h U (by simp[b])) t a
end
def dataTs_nil:dataTs []=[]:=by simp[dataTs]
mutual
def data_ok:∀(x:Va) (T:Ty) (d:Nat),hasV x T->eB T->j5 d T->qm (dataT x)/\(dataT x).size=cntV x/\(T.t=11->yJ (dataT x))
 | .mk k n a s b E z,T,d=>by intro i g j;have⟨hk,C,r,p,D,B,u,c,f⟩:=nY i g;have⟨m,A,o⟩:=datas_ok b u f (Sc i g j c);have⟨v,w,y⟩:=CF i g j (dataTs b) (λe=>by have l:b=[]:=e;rw[l,dataTs_nil]) m (λh t q=>o (Sg h c) t q);rw[dataT,cntV];exact⟨v,by rw[w];omega,y⟩
def datas_ok:∀(xs:an) (ts:ao),hasVs xs ts->(∀U∈ts,eB U/\∃d,j5 d U)->(∀t∈dataTs xs,qm t)/\sizes (dataTs xs)=cntVs xs/\((∀U∈ts,U.t=11)->∀t∈dataTs xs,yJ t)
 | [],_=>by intros;simp[dataTs,sizes,cntVs]
 | _::_,[]=>by intro h;simp[hasVs]at h
 | x::xs,T::ts=>by
  intro f g;simp only[hasVs,qu]at f;have⟨e,d,c⟩:=g T ot;have⟨i,m,j⟩:=data_ok x T d f.1 e c;have⟨k,n,l⟩:=datas_ok xs ts f.2 (λU b=>g U (by simp[b]));rw[dataTs,cntVs];refine⟨?_,?_,?_⟩
  .intro t a;rcases zr.1 a with rfl|a
   .exact i
   .exact k t a
  .simp only[sizes];omega
  .intro h t a;rcases zr.1 a with rfl|a
   .exact j (h T ot)
   .exact l (λU b=>h U (by simp[b])) t a
end
def dR (x:Va):Tr:=(jg 0 x).2
def DV{t:Tr}(h:qm t)(b:300<t.size):dS t=4:=by
 unfold dS;rcases h 1 with a|a
 .rw[if_neg (by simpa using a),if_pos b]
 .rw[if_pos (by rw[a];decide),a]
def OD{x:Va}{T:Ty}{d:Nat}(c:hasV x T)(b:eB T)(a:j5 d T):dS (dR x)=dS (dataT x)/\(dS (dR x)=0->dR x=dataT x)/\(dR x).size<=301:=by
 have⟨f,l,_⟩:=tell_ok x T d 0 c b a;have⟨g,m,_⟩:=data_ok x T d c b a;have⟨n,o,i⟩:=tell_most x 0 od;unfold dR
 by_cases h:cntV x<=301
 .have e:=tell_full x 0 od;rw[e];exact⟨rfl,λ_=>rfl,vu⟩
 .have p:=i od;have j:=DV f od;have k:=DV g od;rw[j,k];exact⟨rfl,λe=>absurd e ov,od⟩
def readTs_length:∀(l:aE) (ts:ao) (ys:an),readTs l ts=some ys->ys.length=ts.length
 | [],[],ys=>by intro h;simp[readTs]at h;subst h;rfl
 | [],_::_,ys=>by intro h;simp[readTs]at h
 | _::_,[],ys=>by intro h;simp[readTs]at h
 | t::l,T::ts,ys=>by
  intro h;rw[readTs]at h
  cases a:readT t T with
  | none=>rw[a]at h;cases h
  | some x =>
   rw[a]at h;simp only[kd]at h;obtain⟨c,b,rfl⟩:=h;simp[readTs_length l ts c b]
section
def abn{K:br}{w w':bx}(h:cm w w' none):Same K w w':=λb o _ a=>qt (h.block b a ot)
def oH{l r:List Prop}(h:∀p∈l,p)(k:∀p∈r,p):∀p∈l++r,p:=λp a=>(xb.1 a).elim (h p) (k p)
def Yp (l:aE) (m:Nat) (t:Tr):Prop:=Bp 5 5 (ndsD l) m=some (.of (.one (.e (ndD t) 0)))
def WV{l:aE}{m:Nat}{t:Tr}(h:l[m]?=some t):Yp l m t:=by unfold Yp Bp;rw[ndsD_map,qb7,h];cases t;rfl
def qY(l:an):(vasD l).length=l.length:=Kd
def Hf(l:aE):(ndsD l).length=l.length:=by simp[ndsD_map]
def row_refl:∀l:bd,L2 dLe l l
 | []=>trivial
 | _::l=>⟨.inl rfl,row_refl l⟩
def rows_refl:∀l:List bd,rowsLe l l
 | []=>trivial
 | _::l=>⟨row_refl _,rows_refl l⟩
def N9{a b:bd}(h:L2 dLe a b):∀l:List bd,rowsLe (l++[a]) (l++[b])
 | []=>⟨h,trivial⟩
 | _::l=>⟨row_refl _,N9 h l⟩
def ZV (y l:Nat) (es rows:List bd):Prop:=(l<=es.length/\rows≠[])/\nC rows/\l+rows.length<=maxLen/\(l+rows.length)*y<=140737488355328
def za{y l:Nat}{es rows:List bd}(b:l<=es.length)(a:rows≠[])(d:nC rows)(c:l+rows.length<=100000000)(e:y<=1000):ZV y l es rows :=
 ⟨⟨b,a⟩,d,On,km (Nat.mul_le_mul c e) ov⟩
def Cr(l:an):nC (vasD l):=by rw[vasD_map];simp only[nC,List.all_map,kB,Function.comp];intro y _ x b;have⟨k,n,a,s,r,t,c⟩:=y;simp only[vaD,zr,qe4,or_false]at b;rcases b with rfl|rfl|rfl|rfl|rfl|rfl|rfl<;>rfl
def UU(xs:an)(x:Va):vasD (xs++[x])=vasD xs++[vaD x]:=Kd
def ZU{ok:br}{w w':bx}{e:TypeId}{n g cap:Nat}(hn:0<n)(h:w'.ownsRow w.heap.size e n (.o g 0 cap) 0 []):QH ok w w' e n [] (.o g 0 cap):=by
 obtain⟨_,⟨h,_⟩|⟨g,cap,c,h,hb,a,f,d,b,_⟩⟩:=h
 .cases h
 .simp only[kl,qk,qc7,and_true,true_and]at h;obtain⟨rfl,rfl⟩:=h;exact⟨_,_,rfl,hb,zE _,by rw[Zp,a];simp only[b],_,c,_,⟨rfl,qS _⟩,a,b,zE _,d,hn,ot,ot⟩
def KN(s:ao):nC (tysD s):=by rw[tysD_map];simp only[nC,List.all_map,kB,Function.comp];intro T _ x b;have⟨t,a⟩:=T;simp only[tyD,zr,qe4,or_false]at b;rcases b with rfl|rfl<;>rfl
def QS{T:Ty}{n:Nat}(B:okT T)(hn:n<1000):Hd ⟨181,[dZ [T],iA n],.of (dZ (List.replicate n T))⟩:=⟨rM func181,λok w E h=>by
 match E,h with
 | [u,v],⟨z,A,_⟩ =>
  obtain⟨a,c,V,rfl,_,q⟩:=jR (ts:=[T]) ⟨B,trivial⟩ (.inl rfl) z;obtain rfl:=bW A;obtain⟨b,o,rfl,_,m,d,l,f,k,x,y⟩:=q.2.1 0 ot;have p:=q.2.2 0 ot;rw[k]at p;refine (Rw m d l f b o n c hn w (by simpa using x) (by simpa using y)).mono ?_;rintro e F ⟨g,rfl,C,⟨t,s,I,J,D⟩,r⟩;have hR:dw (λb=>ok b\/w.heap.size<=b) F (List.replicate n T) (some ⟨g,0,none⟩) (λ_=>bY m d l f):=by
   refine⟨by simp[maxLen];omega,λi j=>?_,λi j=>?_⟩
   .rw[List.length_replicate]at j;have⟨G,H⟩:=D i j;refine⟨g,0,rfl,.inr C,m,d,l,f,rfl,?_,?_⟩<;>rw[qa2]
    .simp[World.cell?,s,G]
    .simp[World.cell?,s,H]
   .rw[List.getElem_replicate];exact (aH.same p (abn r)).ae λb _ h=>.inl h
  have:=(qV (c:=n) hR ot).2;rw[List.length_replicate]at this;exact⟨r,_,rfl,this⟩⟩
end
def EZ:(prog.info? 111).map (λi=>(i.zero,i.size,i.bytes))=some (some (.agg #[.i 0,.n0,.i 0,.i 0,.i 0,.string ⟨#[]⟩,.n0,.n0,.n0]),9,144):=oA
def GrowAt (g:FuncId) (e:TypeId) (c:Nat):Prop:=(g=195/\e=36/\c=7)\/(g=146/\e=54/\c=2)\/(g=180/\e=111/\c=9)
section
variable {g:FuncId}{e:TypeId}{c n:Nat}
def PH(f:GrowAt g e c)(H:n≠0)(hn:n<=20000000):HdF g [nilA,iA n] (.vT e c []):=⟨by rcases f with⟨rfl,_⟩|⟨rfl,_⟩|⟨rfl,_⟩<;>first|exact rM func195|exact rM func146|exact rM func180,λok w F h=>by
 match F,h with
 | [u,v],⟨l,m,_⟩ =>
  obtain⟨a,G,_,rfl,_⟩:=fH (show fI ok w (.s 0 []) u from l);obtain⟨rfl,rfl⟩:=Rv l rfl;obtain rfl:=bW m;have E:(n:Int)<=20000000:=od
  have C:¬(n:Int)<0:=od
  have r:(n:Int) > 0:=od
  have Z:=λ{t e:TypeId} {z:cg} {c y:Nat} (i:(prog.info? e).map (λi=>(i.zero,i.size,i.bytes))=some (some z,c,y)) (u:prog.underlying t=some (.slice e)) (l:0<c) (m:z.cells.size=c) (D:y<=1000)=>zG w t 3 t e .i64 .i64 z c y i u underlying3 n od l m od D;rcases f with⟨rfl,rfl,rfl⟩|⟨rfl,rfl,rfl⟩|⟨rfl,rfl,rfl⟩
  case' inl=>have⟨b,d,A,o,j,f,q,k⟩:=Z Qx underlying28 ov rfl ov
  case' inr.inl=>have⟨b,d,A,o,j,f,q,k⟩:=Z GK underlying27 ov rfl ov
  case' inr.inr=>have⟨b,d,A,o,j,f,q,k⟩:=Z EZ underlying112 ov rfl ov
  all_goals
   have HO:=jh j;have B:=jh f;clear j f Z;refine Calls.mono (R:=λx p=>∃g d,x =.returned (.o g 0 d)/\p.ownsRow w.heap.size _ _ (.o g 0 d) 0 []/\cm w p none) ?_ (λx p ⟨g,d,e,j,f⟩=>⟨f,_,e,ZU ov j⟩)
   first|go_enter func195,ntmps195|go_enter func146,ntmps146|go_enter func180,ntmps180
   go_wp2_with (at_builtin;refine Lib.wpList_append_run _ rfl _ _ _ _ rfl _ _ rfl rfl _ _ o ?_);go_ret;exact⟨_,_,rfl,HO,B⟩⟩
def Qc(b:GrowAt g e c):Hd ⟨g,[nilA,iA 0],.of nilA⟩:=⟨by rcases b with⟨rfl,_⟩|⟨rfl,_⟩|⟨rfl,_⟩<;>first|exact rM func195|exact rM func146|exact rM func180,λok w j h=>by
 match j,h with
 | [u,v],⟨d,i,_⟩ =>
  obtain⟨a,k,_,rfl,_⟩:=fH (show fI ok w (.s 0 []) u from d);obtain⟨rfl,rfl⟩:=Rv d rfl;obtain rfl:=bW i;refine Calls.mono (R:=λx f=>x =.returned (.n0)/\cm w f none) ?_ (λx f ⟨e,b⟩=>⟨b,_,e,PI _ _ (.n0)⟩);rcases b with⟨rfl,_⟩|⟨rfl,_⟩|⟨rfl,_⟩
  all_goals
   first|go_enter func195,ntmps195|go_enter func146,ntmps146|go_enter func180,ntmps180
   go_wp2;go_ret;exact⟨rfl,bM _ _⟩⟩
end
def abh (f g:FuncId) (F:Func) (e:TypeId) (c y:Nat):Prop:=(f=163/\g=195/\F=f163/\e=36/\c=7/\y=112)\/(f=105/\g=146/\F=f105/\e=54/\c=2/\y=32)
section
variable {m n:Nat}{X Y:List bd}
def caR (m n:Nat) (X Y:List bd):A1:=.one (.d (.s 1 [[.s m X],[.s n Y]]))
def ca1 (m n:Nat) (X Y:List bd) (i:Int) (z:A1):St:=[((0,0),.of (caR m n X Y)),((0,9),.of (caR m n X Y)),((0,10),.of (iA 2)),((0,11),.of (iA i)),((0,3),.of z)]
def ca2 (e:TypeId) (c m n:Nat) (X Y:List bd) (i:Int) (k l:Nat) (es:List bd):St:=[((0,25),.of (caR m n X Y)),((0,26),.of (iA 2)),((0,27),.of (iA i)),((0,6),.of (.one (.g k c l))),((k+1,0),.vT e c es)]
def caN (m n:Nat) (i:Int):St:=[((0,25),.of (caR m n [] [])),((0,26),.of (iA 2)),((0,27),.of (iA i)),((0,6),.of nilA)]
abbrev caL (F:Func) (i:Nat) (pre:St) (ex:Nat) (post:St):Prop:=vO prog F.ntmps ⟨kX F i,pre,ex,post⟩
variable {f g:FuncId}{F:Func}{e:TypeId}{c y:Nat}(hb:abh f g F e c y)
include hb
def aaZ(h:X.length+Y.length<=20000000):caL F 0 (ca1 m n X Y 0 (iA 0)) 2 [((0,0),.of (caR m n X Y)),((0,3),.of (jA (X.length+Y.length)))]:=by
 have b:mD (lW (IntKind.i64.wrap (0+(X.length:Int)))) (jA X.length):=yY (zF ot ot oB);have c:mD (lW (IntKind.i64.wrap (Int.ofNat X.length+(Y.length:Int)))) (jA (X.length+Y.length)):=yY (zF ot oB oB);have a:∀j:Nat,mD (aQ (decide (Int.ofNat j<0))) fA:=λj=>wH ot;rcases hb with⟨_,_,rfl,_⟩|⟨_,_,rfl,_⟩
 all_goals
  refine LG (pre2:=ca1 m n X Y 1 (jA X.length)) [(18,jA X.length),(20,fA)] [] (LG (pre2:=ca1 m n X Y 2 (jA (X.length+Y.length))) [(18,jA (X.length+Y.length)),(20,fA)] [] (xQ (e:=1) [] [] al0) (al c (al (a (X.length+Y.length)) al0))) (al b (al (a X.length) al0))
variable {k l:Nat}{es:List bd}{i:Int}{post:St}(hk:k=3000024\/k=3000033)
include hk
def ca_end:caL F 1 (ca2 e c m n X Y 2 k l es) 4 [((0,6),.of (.one (.g k c l))),((k+1,0),.vT e c es)]:=by rcases hb with⟨_,_,rfl,rfl,rfl,_⟩|⟨_,_,rfl,rfl,rfl,_⟩<;>rcases hk with rfl|rfl<;>exact xQ (e:=3) [] [] al0
def aaM(hi:i=0/\X=[]\/i=1/\Y=[])(h:caL F 1 (ca2 e c m n X Y (i+1) k l es) 4 post):caL F 1 (ca2 e c m n X Y i k l es) 4 post:=by have G:=λo a=>LG [(33,.one (.g k c l))] [] h (al (⟨rfl,rfl,rfl⟩:some (AV.of (.one (.g k c l)))=some (.of (.one (.g k c l)))/\([]:List bd)=[]/\true) al0) (pre:=ca2 e c m n X Y i k l es) (h:=o) (hc:=a);rcases hb with⟨_,_,rfl,rfl,rfl,_⟩|⟨_,_,rfl,rfl,rfl,_⟩<;>rcases hk with rfl|rfl<;>rcases hi with⟨rfl,rfl⟩|⟨rfl,rfl⟩<;>exact G oA oA
def Qo{x:bd}{R:List bd}(hi:i=0/\X=x::R/\m=c\/i=1/\Y=x::R/\n=c)(a:rowsLe (es.take l++(x::R)) (es++x::R))(b:ZV y l es (x::R))(h:caL F 1 (ca2 e c m n X Y (i+1) 3000033 (l+(x::R).length) (es++x::R)) 4 post):caL F 1 (ca2 e c m n X Y i k l es) 4 post:=by have G:=λo f=>LG [(2000033,.one (.d (.s c (es++x::R))))] [] h (al a (al b al0)) (pre:=ca2 e c m n X Y i k l es) (h:=o) (hc:=f);rcases hb with⟨_,_,rfl,rfl,rfl,rfl⟩|⟨_,_,rfl,rfl,rfl,rfl⟩<;>rcases hk with rfl|rfl<;>rcases hi with⟨rfl,rfl,rfl⟩|⟨rfl,rfl,rfl⟩<;>exact G oA oA
omit hk in
def aaY(j:m=c\/X=[])(hn:n=c\/Y=[])(d:nC X)(f:nC Y)(a:X.length+Y.length<=20000000)(k:X.length+Y.length≠0):caL F 1 (ca2 e c m n X Y 0 3000024 0 []) 4 [((0,6),.of (.one (.g 3000033 c (X++Y).length))),((3000033+1,0),.vT e c (X++Y))]:=by
 have l:y<=1000:=by rcases hb with h|h<;>omega
 have b:=λ{es:List bd} {x:bd} {R:List bd} (h:nC (x::R)) (o:es.length+(x::R).length<=20000000)=>(⟨by rw[qh4];exact rows_refl _,za (qS _) ot h od l⟩:rowsLe (es.take es.length++(x::R)) (es++x::R)/\ZV y es.length es (x::R));rcases X with _|⟨x,X⟩
 .rcases Y with _|⟨z,Y⟩
  .exact absurd rfl k
  .have:=aaM (m:=m) (n:=n) (i:=0) hb (.inl rfl) (.inl ⟨rfl,rfl⟩) (Qo hb (.inl rfl) (.inr ⟨rfl,rfl,hn.resolve_right ot⟩) (b f (by simp at a|-;omega)).1 (b f (by simp at a|-;omega)).2 (ca_end (X:=[]) hb (.inr rfl)));rw[xT,qa2]at this;exact this
 .rcases Y with _|⟨z,Y⟩
  .have:=Qo (m:=m) (n:=n) (i:=0) hb (.inl rfl) (.inl ⟨rfl,rfl,j.resolve_right ot⟩) (b (es:=[]) d (by simp at a|-;omega)).1 (b (es:=[]) d (by simp at a|-;omega)).2 (aaM (Y:=[]) hb (.inr rfl) (.inr ⟨rfl,rfl⟩) (ca_end hb (.inr rfl)));rw[xT,qa2]at this;rw[qd1];exact this
  .have:=Qo (m:=m) (n:=n) (i:=0) hb (.inl rfl) (.inl ⟨rfl,rfl,j.resolve_right ot⟩) (b (es:=[]) d (by simp at a|-;omega)).1 (b (es:=[]) d (by simp at a|-;omega)).2 (by
    have:=Qo (es:=x::X) (m:=m) (n:=n) (i:=1) (X:=x::X) hb (.inr rfl) (.inr ⟨rfl,rfl,hn.resolve_right ot⟩) (b f (by simp at a|-;omega)).1 (b f (by simp at a|-;omega)).2 (ca_end hb (.inr rfl));rw[<-qT]at this;rw[xT,qa2];exact this)
   exact this
omit hk in
def aaK(A:m=c\/X=[])(hn:n=c\/Y=[])(B:nC X)(C:nC Y)(o:X.length+Y.length<=20000000):Hd ⟨f,[caR m n X Y],.of (.one (.d (.s c (X++Y))))⟩:=by
 have y:=aaZ (m:=m) (n:=n) hb o;have k:GrowAt g e c:=by rcases hb with⟨_,rfl,_,rfl,rfl,_⟩|⟨_,rfl,_,rfl,rfl,_⟩<;>first|exact .inl ⟨rfl,rfl,rfl⟩|exact .inr (.inl ⟨rfl,rfl,rfl⟩)
 have z:prog.funcs[f]?=some F:=by rcases hb with⟨rfl,_,rfl,_⟩|⟨rfl,_,rfl,_⟩<;>first|exact func163|exact func105
 by_cases t:X.length+Y.length=0
 .obtain rfl:X=[]:=jx od;obtain rfl:Y=[]:=jx od;have j:=Qc k;have r:some (AV.of nilA)=some (.of nilA)/\([]:List bd)=[]/\nilA.isS:=⟨rfl,rfl,rfl⟩;have G:caL F 1 (caN m n 0) 4 [((0,6),.of nilA)]:=by
   rcases hb with⟨_,_,rfl,_⟩|⟨_,_,rfl,_⟩<;>exact LG (pre2:=caN m n 1) [(33,nilA)] [] (LG (pre2:=caN m n 2) [(33,nilA)] [] (xQ (e:=3) [] [] al0) (al r al0)) (al r al0)
  have p:Hd ⟨f,[caR m n [] []],.of nilA⟩:=by
   refine Ce z [] [_,_] (by intro x a;rcases zr.1 a with rfl|a;exact y;rw[js]at a;subst a;exact G) [⟨_,j⟩] (oH (wI (S:=ca1 m n [] [] 0 (iA 0)) (q:=kX F 0=kX F 0) rfl (ps:=[]) al0) (wI (S:=caN m n 0) (q:=kX F 1=kX F 1) rfl (ps:=[]) al0)) (h:=?_) (hb:=?_) (hn:=?_)
   all_goals rcases hb with⟨rfl,rfl,rfl,rfl,rfl,_⟩|⟨rfl,rfl,rfl,rfl,rfl,_⟩<;>kernel_rfl
  exact p.conv (λ_ _ _ h=>h) λok w v h=>gG (show fI ok w (.s 0 []) v from h) (by rcases hb with h|h<;>omega)
 .have j:=PH k t o;have u:=aaY hb A hn B C o t;have⟨E,i⟩:∃E,E=X++Y:=⟨_,rfl⟩;have⟨l,b⟩:∃l,l=E.length:=⟨_,rfl⟩;rw[<-i,<-b]at u;rw[<-i];clear i B C A hn k;refine Ce z [] [_,_] (by intro x a;rcases zr.1 a with rfl|a;exact y;rw[js]at a;subst a;exact u) [⟨_,j⟩] (oH (oH (wI (S:=ca1 m n X Y 0 (iA 0)) (q:=kX F 0=kX F 0) rfl (ps:=[]) al0) (wI (S:=ca2 e c m n X Y 0 3000024 0 []) (q:=kX F 1=kX F 1) rfl (ps:=[]) al0)) (al b al0)) (h:=?_) (hb:=?_) (hn:=?_)
  all_goals rcases hb with⟨rfl,rfl,rfl,rfl,rfl,_⟩|⟨rfl,rfl,rfl,rfl,rfl,_⟩<;>kernel_rfl
end
def gV:GrowAt 195 36 7:=.inl ⟨rfl,rfl,rfl⟩
def gK:GrowAt 180 111 9:=.inr (.inr ⟨rfl,rfl,rfl⟩)
def Da{l r:an}{m n:Nat}(b:m=7\/l=[])(hn:n=7\/r=[])(a:l.length+r.length<=20000000):Hd ⟨163,[.one (.d (.s 1 [[.s m (vasD l)],[.s n (vasD r)]]))],.of (qi (l++r))⟩:=by have:=aaK (.inl ⟨rfl,rfl,rfl,rfl,rfl,rfl⟩) (b.imp_right (congrArg vasD)) (hn.imp_right (congrArg vasD)) (Cr l) (Cr r) (by rw[qY,qY];exact a);rw[show vasD l++vasD r=vasD (l++r) by simp[vasD_map]]at this;exact this
def lg{x y:ao}{m n:Nat}(b:m=2\/x=[])(hn:n=2\/y=[])(a:x.length+y.length<=20000000):Hd ⟨105,[.one (.d (.s 1 [[.s m (tysD x)],[.s n (tysD y)]]))],.of (dZ (x++y))⟩:=by have:=aaK (.inr ⟨rfl,rfl,rfl,rfl,rfl,rfl⟩) (b.imp_right (congrArg tysD)) (hn.imp_right (congrArg tysD)) (KN x) (KN y) (by rw[eY,eY];exact a);rw[show tysD x++tysD y=tysD (x++y) by simp[tysD_map]]at this;exact this
