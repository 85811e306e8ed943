import Derived.Test.YtnamdihclpbdfabGreatKtZab
import Derived.Test.YtnamdihclpbdfabGreatKtZac
import Derived.Lib.AppendZeros
import Derived.Deep.RegionHeld3
import Derived.Deep.DeepCutAuto
import Derived.Lib.AppendStr
namespace Go.Proofs.YtnamdihclpbdfabGreat
set_option linter.all false
open Go.Proofs.Tryz
set_option maxRecDepth 100000
set_option maxHeartbeats 4000000
open Pe
def Tr.args0:Tr->aE
 | .nd _ _ _ _ l=>l
mutual
def tyD:Ty->bd
 | .nd t a=>[.v (.i t),.s 2 (tysD a)]
def tysD:aw->List bd
 | []=>[]
 | T::ts=>tyD T::tysD ts
end
mutual
def ndD:Tr->bd
 | .nd k n p s a=>[.v (.i k),.v (.i n),.v (.i p),.v (.string s),.s 5 (ndsD a)]
def ndsD:aE->List bd
 | []=>[]
 | T::ts=>ndD T::ndsD ts
end
def tysD_map:∀ts:aw,tysD ts=ts.map tyD
 | []=>rfl
 | T::ts=>by simp[tysD,tysD_map ts]
def ndsD_map:∀ts:aE,ndsD ts=ts.map ndD
 | []=>rfl
 | T::ts=>by simp[ndsD,ndsD_map ts]
def AA(T:Ty):(tyD T).length=2:=by cases T;rfl
def LJ(t:Tr):(ndD t).length=5:=by cases t;rfl
mutual
def okT:Ty->Prop
 | .nd t a=>bD t/\okTs a
def okTs:aw->Prop
 | []=>True
 | T::ts=>okT T/\okTs ts
end
mutual
def okN:Tr->Prop
 | .nd k n p s a=>(bD k/\bD n/\bD p/\s.size<=maxLen)/\okNs a
def okNs:aE->Prop
 | []=>True
 | T::ts=>okN T/\okNs ts
end
def okTs_at:∀{ts:aw},okTs ts ↔ ∀T∈ts,okT T
 | []=>by simp[okTs]
 | T::ts=>by simp[okTs,okTs_at (ts:=ts)]
def okNs_at:∀{ts:aE},okNs ts ↔ ∀T∈ts,okN T
 | []=>by simp[okNs]
 | T::ts=>by simp[okNs,okNs_at (ts:=ts)]
section
variable {ok:br}{w:cg}
def qI{T:Ty}{v:cm}(h:aH ok w T v):okT T/\∃a c,v=bY T.t a T.args.length c/\fI ok w (.s 2 (tysD T.args)) (.slice a T.args.length c):=by
 induction h with
 | mk V I E F B J p =>
  rename_i t args a c;refine⟨⟨F,okTs_at.2 (λT z=>?_)⟩,a,c,rfl,?_⟩
  .obtain⟨i,C,rfl⟩:=qc3 z;exact (p i C).1
  .have l:(tysD args).length=args.length:=by simp[tysD_map]
   have m:fI ok w (.s 2 (tysD args)) (.slice a (tysD args).length c):=by
    have d:∀(i:Nat) (r:bd),(tysD args)[i]?=some r->∃h:i<args.length,r=tyD args[i]:=λi r e=>by rw[tysD_map,qa5,qT]at e;obtain⟨T,k,rfl⟩:=e;obtain⟨h,rfl⟩:=qS.1 k;exact⟨h,rfl⟩
    refine .s (λi j=>((V i).cells[j]?).getD undef) od od (λi r e=>?_) (λi r j x k f=>?_) (λi r j x k f=>?_)
    .obtain⟨h,rfl⟩:=d i r e;exact AA _
    .obtain⟨h,rfl⟩:=d i r k;obtain⟨b,o,rfl,A,G,q,K,u,n,h0,y⟩:=B i h;have H:j<2:=by have:=(qS.1 f).1;rwa [AA]at this
     refine⟨b,o,rfl,A,?_⟩;rw[n];rcases (show j=0\/j=1 by omega)with rfl|rfl
     .exact h0
     .rw[show o+(i*2+1)=o+i*2+1 by omega];exact y
    .obtain⟨h,rfl⟩:=d i r k;have⟨_,q,u,n,g⟩:=p i h;rw[n];generalize args[i]=T at f g n;have⟨G,az⟩:=T;rcases j with _|_|j
     .simp only[tyD,km,qq]at f;subst f;exact .v _
     .simp only[tyD,yW,km,qq]at f;subst f;exact g
     .simp[tyD]at f
   rw[l]at m;exact m
def qV{ts:aw}{a:bj}{V:bt}{c:Nat}(h:dw ok w ts a V)(hc:ts.length<=c):okTs ts/\fI ok w (.s 2 (tysD ts)) (.slice a ts.length c):=by have:=qI (aH.of (t:=0) ⟨ov,ov⟩ h hc);have⟨b,f,g,e,d⟩:=this;simp only[Go.Proofs.YtnamdihclpbdfabGreat.bY,Ty.t,Ty.args,ja4,jc3,qb6,ye,true_and,and_true]at e;obtain⟨rfl,rfl⟩:=e;exact⟨b.2,d⟩
def rep_rowT:∀(N:Nat) {ts:aw}{a:bj}{l c:Nat},tysizes ts<=N->okTs ts->fI ok w (.s 2 (tysD ts)) (.slice a l c)->l=ts.length/\ts.length<=c/\∃V,dw ok w ts a V:=λN=>by
 induction N with
 | zero =>
  intro ts a l c E m h;have⟨F,G,U,e,D,I,J,p⟩:=fH h;have n:ts=[]:=by
   cases ts with
   | nil=>rfl
   | cons T ts=>have:=Cz T;simp only[tysizes]at E;omega
  subst n;simp only[ye]at e;obtain⟨rfl,rfl,rfl⟩:=e;exact⟨rfl,D,λ_=>.i 0,dw.nil _ _ _ _⟩
 | succ N O =>
  intro ts a l c E m h;have⟨F,G,U,e,D,I,J,p⟩:=fH h;have k:(tysD ts).length=ts.length:=by simp[tysD_map]
  simp only[ye]at e;obtain⟨rfl,rfl,rfl⟩:=e;have j:∀(i:Nat) (d:i<ts.length),(tysD ts)[i]?=some (tyD ts[i]):=λi d=>by rw[tysD_map,qa5,qt d];rfl
  have g:∀(i:Nat) (d:i<ts.length),∃v,rC ok w a i v/\aH ok w ts[i] v:=λi d=>by
   have u:ts[i]∈ts:=yv d;have n:=jS u;have f:=okTs_at.1 m _ u;have q:=j i d;generalize ts[i]=T at u n f q;have⟨t,az⟩:=T;obtain⟨⟨b,o,rfl,L,A⟩,P⟩:=p i _ 0 _ q rfl;have⟨⟨Q,S,e,_,B⟩,y⟩:=p i _ 1 _ q rfl;simp only[qq,jb2,and_true]at e;obtain⟨rfl,rfl⟩:=e;have⟨z,C,_,H,_⟩:=fH y;rw[H]at y B;rw[bW P]at A;have x:tysizes az<=N:=by simp only[Ty.size]at n;omega
   have⟨R,M,V,K⟩:=O x f.2 y;have r:(tysD az).length=az.length:=by simp[tysD_map]
   refine⟨bY t z az.length C,⟨b,o,rfl,L,t,z,az.length,C,rfl,A,?_⟩,aH.of f.1 K M⟩;rw[<-r,qg2];exact B
  refine⟨k,od,λi=>if d:i<ts.length then (g i d).choose else undef,od,λi d=>?_,λi d=>?_⟩
  .simp only[d,dite_true];exact (g i d).choose_spec.1
  .simp only[d,dite_true];exact (g i d).choose_spec.2
def qL{T:Tr}{v:cm}(h:bI ok w T v):okN T/\∃k n p s a c,T =.nd k n p s T.args0/\v=af k n p s a T.args0.length c/\fI ok w (.s 5 (ndsD T.args0)) (.slice a T.args0.length c):=by
 induction h with
 | mk V S J L K M H U y =>
  rename_i k n p s args a c hk;refine⟨⟨⟨L,K,M,J⟩,okNs_at.2 (λT m=>?_)⟩,k,n,p,s,a,c,rfl,rfl,?_⟩
  .obtain⟨i,I,rfl⟩:=qc3 m;exact (y i I).1
  .have q:(ndsD args).length=args.length:=by simp[ndsD_map]
   have t:fI ok w (.s 5 (ndsD args)) (.slice a (ndsD args).length c):=by
    have f:∀(i:Nat) (r:bd),(ndsD args)[i]?=some r->∃h:i<args.length,r=ndD args[i]:=λi r e=>by rw[ndsD_map,qa5,qT]at e;obtain⟨T,l,rfl⟩:=e;obtain⟨h,rfl⟩:=qS.1 l;exact⟨h,rfl⟩
    refine .s (λi j=>((V i).cells[j]?).getD undef) od od (λi r e=>?_) (λi r j x l d=>?_) (λi r j x l d=>?_)
    .obtain⟨h,rfl⟩:=f i r e;exact LJ _
    .obtain⟨h,rfl⟩:=f i r l;obtain⟨b,o,rfl,G,N,O,P,Q,z,X,A,u,h0,B,C,E,F⟩:=H i h;have R:j<5:=by have:=(qS.1 d).1;rwa [LJ]at this
     refine⟨b,o,rfl,G,?_⟩;rw[u];rw[<-qg2];rcases (show j=0\/j=1\/j=2\/j=3\/j=4 by omega)with rfl|rfl|rfl|rfl|rfl
     .exact h0
     .exact B
     .exact C
     .exact E
     .exact F
    .obtain⟨h,rfl⟩:=f i r l;have⟨_,N,O,P,Q,z,A,m,u,g⟩:=y i h;rw[u];generalize args[i]=T at d g u m;have⟨W,Y,p2,Z,az⟩:=T;simp only[Tr.nd.injEq]at m;obtain⟨rfl,rfl,rfl,rfl,_⟩:=m;rcases j with _|_|_|_|_|j
     .simp only[ndD,km,qq]at d;subst d;exact .v _
     .simp only[ndD,yW,km,qq]at d;subst d;exact .v _
     .simp only[ndD,yW,km,qq]at d;subst d;exact .v _
     .simp only[ndD,yW,km,qq]at d;subst d;exact .v _
     .simp only[ndD,yW,km,qq]at d;subst d;exact g
     .simp[ndD]at d
   rw[q]at t;exact t
def rep_rowN:∀(N:Nat) {ts:aE}{a:bj}{l c:Nat},sizes ts<=N->okNs ts->fI ok w (.s 5 (ndsD ts)) (.slice a l c)->l=ts.length/\ts.length<=c/\∃V,cK ok w ts a V:=λN=>by
 induction N with
 | zero =>
  intro ts a l c O t h;have⟨Q,R,U,e,M,S,W,j⟩:=fH h;have y:ts=[]:=by
   cases ts with
   | nil=>rfl
   | cons T ts=>have:=size_pos T;simp only[sizes]at O;omega
  subst y;simp only[ye]at e;obtain⟨rfl,rfl,rfl⟩:=e;exact⟨rfl,M,λ_=>.i 0,cK.nil _ _ _ _⟩
 | succ N Z =>
  intro ts a l c O t h;have⟨Q,R,U,e,M,S,W,j⟩:=fH h;have r:(ndsD ts).length=ts.length:=by simp[ndsD_map]
  simp only[ye]at e;obtain⟨rfl,rfl,rfl⟩:=e;have q:∀(i:Nat) (d:i<ts.length),(ndsD ts)[i]?=some (ndD ts[i]):=λi d=>by rw[ndsD_map,qa5,qt d];rfl
  have g:∀(i:Nat) (d:i<ts.length),∃v,ky ok w a i v/\bI ok w ts[i] v:=λi d=>by
   have P:ts[i]∈ts:=yv d;have y:(ts[i]).size<=sizes ts:=by have:=gH ts i d;have:=jF ts (i+1);omega
   have f:=okNs_at.1 t _ P;have m:=q i d;generalize ts[i]=T at P y f m;have⟨k,n,p,s,az⟩:=T;obtain⟨⟨b,o,rfl,X,z⟩,r0⟩:=j i _ 0 _ m rfl;have⟨⟨b1,o1,J,_,A⟩,r1⟩:=j i _ 1 _ m rfl;have⟨⟨b2,o2,x,_,B⟩,r2⟩:=j i _ 2 _ m rfl;have⟨⟨b3,o3,K,_,C⟩,r3⟩:=j i _ 3 _ m rfl;have⟨⟨b4,o4,L,_,u⟩,G⟩:=j i _ 4 _ m rfl;simp only[qq,jb2,and_true]at J x K L;obtain⟨rfl,rfl⟩:=J;obtain⟨rfl,rfl⟩:=x;obtain⟨rfl,rfl⟩:=K;obtain⟨rfl,rfl⟩:=L;have⟨H,I,_,x,_⟩:=fH G;rw[x]at G u;rw[bW r0]at z;rw[bW r1]at A;rw[bW r2]at B;rw[bW r3]at C;have F:sizes az<=N:=by simp only[Tr.size]at y;omega
   have⟨hl,Y,V,D⟩:=Z F f.2 G;have E:(ndsD az).length=az.length:=by simp[ndsD_map]
   rw[E]at u;simp only[<-qg2]at z A B C u;exact⟨af k n p s H az.length I,⟨b,o,rfl,X,k,n,p,s,H,az.length,I,rfl,z,A,B,C,u⟩,bI.mk (hk:=Y) V D.1 f.1.2.2.2 f.1.1 f.1.2.1 f.1.2.2.1 D.2.1 D.2.2⟩
  refine⟨r,od,λi=>if d:i<ts.length then (g i d).choose else undef,od,λi d=>?_,λi d=>?_⟩
  .simp only[d,dite_true];exact (g i d).choose_spec.1
  .simp only[d,dite_true];exact (g i d).choose_spec.2
end
def dZ (ts:aw):A1:=.one (.d (.s 2 (tysD ts)))
def tyA:Ty->A1
 | .nd t a=>.agg [.d (.v (.i t)),.d (.s 2 (tysD a))]
def CW (ts:aE):A1:=.one (.d (.s 5 (ndsD ts)))
def ndA:Tr->A1
 | .nd k n p s a=>.agg [.d (.v (.i k)),.d (.v (.i n)),.d (.v (.i p)),.d (.v (.string s)),.d (.s 5 (ndsD a))]
def iA (n:Int):A1:=.one (.d (.v (.i n)))
def bA (b:Bool):A1:=.one (.d (.v (.bool b)))
def nilA:A1:=.one (.d (.s 0 []))
abbrev Hd (s:Sp):Prop:=Holds prog s
abbrev HL:=List { s:Sp // Hd s }
def mixed:prog.follows .mixedOrders:=oA
def asked:Option (AV×List Sp×Obl)->Option (AV×List Sp×List Prop×List Prop)
 | some (v,C,ob)=>some (v,C,(ob.filter λp=>!p.1).map (·.2),(ob.filter λp=>p.1).map (·.2))
 | none=>none
def abH[pq](d:Mv)(fr:Fr)(g:fr.b->d.p=none){f:FuncId}{fn:Func}(t:prog.funcs[f]?=some fn)(T:Hints)(L:List Lp)(q:∀l∈L,vO prog fn.ntmps l)(i:List { s:Sp // Holds prog s }){args:List A1}{res:AV}{ob:List Prop}
 (h:asked (Wd d.p fr.b prog fn (fn.body.getD .skip) T L (i.map (·.1)) args)=some (res,[],(i.map (·.1)).map (λs=>s.need=s.need),ob)) (hob:∀p∈ob,p)
 (hb:fn.body.isSome:=by kernel_rfl) (hn:(fn.name == "runtime.NumGoroutine")=false:=by kernel_rfl) (hrb:∀k,pq.h0 k=none:=by exact λ_=>rfl):Holds prog (@Sp.mk f args res d fr bl0):=by
 have⟨c,j⟩:=qf1.1 hb;rw[j]at h;unfold asked at h;split at h<;>try (cases h;done)
 rename_i v C a r;simp only[qq,js]at h;obtain⟨rfl,rfl,n,o⟩:=h;refine holds mixed t j hn d fr g T L _ (λs u=>by obtain⟨x,_,rfl⟩:=kl.1 u;exact x.2) q r (λp m=>?_) hrb
 cases hb:p.1 with
 | false =>
  have : p.2∈(a.filter λp=>!p.1).map (·.2):=kl.2 ⟨p,jb4.2 ⟨m,by simp[hb]⟩,rfl⟩;rw[n]at this;have⟨s,_,e⟩:=kl.1 this;exact e ▸ trivial
 | true =>
  have : p.2∈(a.filter λp=>p.1).map (·.2):=kl.2 ⟨p,jb4.2 ⟨m,hb⟩,rfl⟩;rw[o]at this;exact hob _ this
def YJ[pq](c:Mv){f:FuncId}{a:Func}(e:prog.funcs[f]?=some a)(T:Hints)(L:List Lp)(d:∀l∈L,vO prog a.ntmps l)(b:List { s:Sp // Holds prog s }){args:List A1}{res:AV}{ob:List Prop}
 (h:asked (Wd c.p false prog a (a.body.getD .skip) T L (b.map (·.1)) args)=some (res,[],(b.map (·.1)).map (λs=>s.need=s.need),ob)) (hob:∀p∈ob,p)
 (hb:a.body.isSome:=by kernel_rfl) (hn:(a.name == "runtime.NumGoroutine")=false:=by kernel_rfl) (hrb:∀k,pq.h0 k=none:=by exact λ_=>rfl):Holds prog (@Sp.mk f args res c fr0 bl0):=abH c fr0 (λh=>by cases h) e T L d b h hob hb hn hrb
abbrev fr1:Fr:=⟨true⟩
abbrev HdF (f:FuncId) (args:List A1) (res:AV):Prop:=Holds prog (@Sp.mk f args res mv0 fr1 bl0)
def adr{f:FuncId}{a:Func}(d:prog.funcs[f]?=some a)(T:Hints)(L:List Lp)(c:∀l∈L,vO prog a.ntmps l)(b:List { s:Sp // Holds prog s }){args:List A1}{res:AV}{ob:List Prop}
 (hob:∀p∈ob,p) (h:asked (Wd none true prog a (a.body.getD .skip) T L (b.map (·.1)) args)=some (res,[],(b.map (·.1)).map (λs=>s.need=s.need),ob):=by kernel_rfl)
 (hb:a.body.isSome:=by kernel_rfl) (hn:(a.name == "runtime.NumGoroutine")=false:=by kernel_rfl):HdF f args res:=abH mv0 fr1 (λ_=>rfl) d T L c b h hob hb hn
def Ce{f:FuncId}{a:Func}(d:prog.funcs[f]?=some a)(T:Hints)(L:List Lp)(c:∀l∈L,vO prog a.ntmps l)(b:HL){args:List A1}{res:AV}{ob:List Prop}
 (hob:∀p∈ob,p) (h:asked (evF prog a (a.body.getD .skip) T L (b.map (·.1)) args)=some (res,[],(b.map (·.1)).map (λs=>s.need=s.need),ob):=by kernel_rfl)
 (hb:a.body.isSome:=by kernel_rfl) (hn:(a.name == "runtime.NumGoroutine")=false:=by kernel_rfl):Hd ⟨f,args,res⟩:=YJ mv0 d T L c b h hob hb hn
def runT{f:FuncId}{a:Func}(c:prog.funcs[f]?=some a)(T:Hints)(b:HL){args:List A1}{res:AV}{ob:List Prop}
 (hob:∀p∈ob,p) (h:asked (evF prog a (a.body.getD .skip) T [] (b.map (·.1)) args)=some (res,[],(b.map (·.1)).map (λs=>s.need=s.need),ob):=by kernel_rfl)
 (hb:a.body.isSome:=by kernel_rfl) (hn:(a.name == "runtime.NumGoroutine")=false:=by kernel_rfl):Hd ⟨f,args,res⟩:=Ce c T [] oe b hob h hb hn
def aF{f:FuncId}{a:Func}(c:prog.funcs[f]?=some a)(b:HL){args:List A1}{res:AV}
 (h:asked (evF prog a (a.body.getD .skip) [] [] (b.map (·.1)) args)=some (res,[],(b.map (·.1)).map (λs=>s.need=s.need),[]):=by kernel_rfl)
 (hb:a.body.isSome:=by kernel_rfl) (hn:(a.name == "runtime.NumGoroutine")=false:=by kernel_rfl):Hd ⟨f,args,res⟩:=runT c [] b oe h hb hn
def LF(T:Ty):(tyA T).keys=[]:=by cases T;rfl
def yC(t:Tr):(ndA t).keys=[]:=by cases t;rfl
def Pe.Holds.conv{f:FuncId}{a:List A1}{b:AV}(h:Hd ⟨f,a,b⟩){args:List A1}{res:AV}(i:∀ok w vs,dU (gm (λ_=>none) ok w) args vs->dU (gm (λ_=>none) ok w) a vs)(j:∀ok w v,iZ (λ_=>none) ok w b v->iZ (λ_=>none) ok w res v)(nk:res.keys=[]:=by first|rfl|(simp only[AV.keys,qd0,jh0,LF,yC,qe4,qb0]<;>rfl)):Hd ⟨f,args,res⟩ :=
 ⟨⟨h.OT.1,by show res.keys.all _;rw[nk];rfl⟩,λok w vs k=>(h.runN rfl ok w vs (i ok w vs k)).mono λe l ⟨g,v,c,d⟩=>⟨g,v,c,j _ _ _ d⟩⟩
def gG{ok:br}{w:cg}{n m:Nat}{v:cm}(h:fI ok w (.s n []) v)(hm:m≠0:=by decide):fI ok w (.s m []) v:=by obtain⟨a,c,U,rfl,b,d,_⟩:=fH h;exact .s U b d oe oe oe (λh=>absurd h hm)
def bK{f:FuncId}{a:Func}(e:prog.funcs[f]?=some a)(hb:a.body.isSome:=by kernel_rfl)(hn:(a.name == "runtime.NumGoroutine")=false:=by kernel_rfl):∀(args:Array cm) (w:cg),(callFunc f args).run prog w =.ok (.enter f args) w:=λargs w=>by
 have⟨c,d⟩:=qf1.1 hb
 have b:¬a.name = "runtime.NumGoroutine":=by simpa using hn
 simp[callFunc,e,b,d,Result.andThen]
def tF{f:FuncId}{a:Func}{res:AV}(b:prog.funcs[f]?=some a)(hb:a.body.isSome:=by kernel_rfl)(hn:(a.name == "runtime.NumGoroutine")=false:=by kernel_rfl)(nk:res.keys=[]:=by first|rfl|(simp only[AV.keys,qd0,jh0,LF,yC,qe4,qb0]<;>rfl)):(∀(args:Array cm) (w:cg),(callFunc f args).run prog w =.ok (.enter f args) w)/\res.keys.all (Hp.lk {}):=⟨bK b hb hn,by rw[nk];rfl⟩
mutual
def okT_formed:∀(T:Ty) (d:Nat),j5 d T->okT T
 | .nd t a,d,h=>by simp only[j5,qv,jH,jt]at h;exact⟨⟨od,od⟩,okTs_formed a (d+1) h.2⟩
def okTs_formed:∀(l:aw) (d:Nat),ig d l->okTs l
 | [],_,_=>trivial
 | T::l,d,h=>by simp only[ig,qv]at h;exact⟨okT_formed T d h.1,okTs_formed l d h.2⟩
end
def oM{T:Ty}(h:au T):okT T:=by simp only[au,qv]at h;exact okT_formed T 1 h.1.1
def ai{s:aw}(h:s.all au):okTs s:=okTs_at.2 λT a=>oM (ki.1 h T a)
def jM{f:FuncId}{b:Bool}{args:List A1}(a:∀(args:Array cm) (w:cg),(callFunc f args).run prog w =.ok (.enter f args) w)(h:∀ok w vs,dU (gm (λ_=>none) ok w) args vs->Calls prog f vs.toArray w λe w'=>e =.returned (.bool b)/\cq w w' none):Hd ⟨f,args,aQ b⟩ :=
 ⟨⟨a,rfl⟩,λok w vs d=>(h ok w vs d).mono (by rintro e w' ⟨rfl,c⟩;exact⟨c,_,rfl,fI.v _⟩)⟩
def jR{ok:br}{w:cg}{ts:aw}{n:Nat}{v:cm}(hk:okTs ts)(hn:n=2\/ts=[])(h:fI ok w (.s n (tysD ts)) v):∃a c V,v =.slice a ts.length c/\ts.length<=c/\dw ok w ts a V:=by
 have h:fI ok w (.s 2 (tysD ts)) v:=by
  rcases hn with rfl|rfl
  .exact h
  .exact gG h
 have⟨a,c,U,e,_⟩:=fH h;subst e;have⟨f,d,V,b⟩:=rep_rowT _ (jn _) hk h;exact⟨a,c,V,by rw[f],d,b⟩
def oK{ok:br}{w:cg}{t:Tr}{u:cm}(b:okN t)(l:gm (λ_=>none) ok w (ndA t) u):bI ok w t u:=by
 have⟨k,n,p,s,az⟩:=t;obtain⟨q,rfl,h⟩:=l
 match q,h with
 | [r,v,x,y,z],⟨f,g,i,j,e,_⟩ =>
  obtain⟨a,c,U,rfl,_⟩:=fH e;have⟨o,m,V,d⟩:=rep_rowN _ (jn _) b.2 e;rw[bW f,bW g,bW i,bW j,o];exact bI.mk (hk:=m) V d.1 b.1.2.2.2 b.1.1 b.1.2.1 b.1.2.2.1 d.2.1 d.2.2
def uI{ok:br}{w:cg}{l:aE}{a:bj}{V:bt}{c:Nat}(h:cK ok w l a V)(hc:l.length<=c):fI ok w (.s 5 (ndsD l)) (.slice a l.length c):=by have:=qL (bI.mk (hk:=hc) (k:=0) (n:=0) (p:=0) (s:=⟨#[]⟩) V h.1 (yb _) ⟨ov,ov⟩ ⟨ov,ov⟩ ⟨ov,ov⟩ h.2.1 h.2.2);have⟨_,k,n,p,s,d,f,_,e,b⟩:=this;simp only[af,Tr.args0,ja4,jc3,qb6,ye,true_and,and_true]at e;obtain⟨_,_,_,_,rfl,rfl⟩:=e;exact b
def Fw{ok:br}{w:cg}{l:aE}{a:bj}{V:bt}(h:cK ok w l a V):okNs l:=okNs_at.2 λt c=>by obtain⟨i,b,rfl⟩:=qc3 c;exact (qL (h.2.2 i b)).1
mutual
def vaD:Va->bd
 | .mk k n a s args types code=>[.v (.i k),.v (.i n),.v (.i a),.v (.string s),.s 7 (vasD args),.s 2 (tysD types),.s 5 (ndsD code)]
def vasD:ao->List bd
 | []=>[]
 | x::xs=>vaD x::vasD xs
end
def vasD_map:∀l:ao,vasD l=l.map vaD
 | []=>rfl
 | x::l=>by simp[vasD,vasD_map l]
def Mi(x:Va):(vaD x).length=7:=by cases x;rfl
mutual
def okV:Va->Prop
 | .mk k n a s args types code=>(bD k/\bD n/\bD a/\s.size<=maxLen)/\okVs args/\okTs types/\okNs code
def okVs:ao->Prop
 | []=>True
 | x::xs=>okV x/\okVs xs
end
def okVs_at:∀{l:ao},okVs l ↔ ∀x∈l,okV x
 | []=>by simp[okVs]
 | x::l=>by simp[okVs,okVs_at (l:=l)]
section
variable {ok:br}{w:cg}
def y9{x:Va}{v:cm}(h:aA ok w x v):∃f ac ta tc na nc,v=bg x.k x.n x.a x.s f x.args.length ac ta x.types.length tc na x.code.length nc/\fI ok w (.s 7 (vasD x.args)) (.slice f x.args.length ac)/\fI ok w (.s 2 (tysD x.types)) (.slice ta x.types.length tc)/\fI ok w (.s 5 (ndsD x.code)) (.slice na x.code.length nc):=by
 induction h with
 | mk V X W hl R hs ik iN ia O N Q hr S =>
  rename_i k n a s args types code f ta na ac tc nc m;refine⟨f,ac,ta,tc,na,nc,rfl,?_,(qV O m.2).2,uI N m.1⟩;have l:(vasD args).length=args.length:=KK
  have p:fI ok w (.s 7 (vasD args)) (.slice f (vasD args).length ac):=by
   have d:∀(i:Nat) (r:bd),(vasD args)[i]?=some r->∃h:i<args.length,r=vaD args[i]:=λi r e=>by rw[vasD_map,qa5,qT]at e;obtain⟨T,g,rfl⟩:=e;obtain⟨h,rfl⟩:=qS.1 g;exact⟨h,rfl⟩
   refine .s (λi j=>((V i).cells[j]?).getD undef) od od (λi r e=>?_) (λi r j x g c=>?_) (λi r j x g c=>?_)
   .obtain⟨h,rfl⟩:=d i r e;exact Mi _
   .obtain⟨h,rfl⟩:=d i r g;obtain⟨b,o,rfl,P,k',n',Y,s',t,G,u,A,jJ,B,y,U,z,q,h0,H,I,J,K,L,M⟩:=Q i h;have hj:j<7:=by have:=(qS.1 c).1;rwa [Mi]at this
    refine⟨b,o,rfl,P,?_⟩;rw[q];rw[<-qg2];rcases (show j=0\/j=1\/j=2\/j=3\/j=4\/j=5\/j=6 by omega)with rfl|rfl|rfl|rfl|rfl|rfl|rfl
    .exact h0
    .exact H
    .exact I
    .exact J
    .exact K
    .exact L
    .exact M
   .obtain⟨h,rfl⟩:=d i r g;have⟨t,u,A,B,y,z,q,C,E,F⟩:=S i h;rw[q];generalize args[i]=T at c q C E F;have⟨k2,n2,Z,s2,az,tz,cz⟩:=T;rcases j with _|_|_|_|_|_|_|j
    .simp only[vaD,km,qq]at c;subst c;exact .v _
    .simp only[vaD,yW,km,qq]at c;subst c;exact .v _
    .simp only[vaD,yW,km,qq]at c;subst c;exact .v _
    .simp only[vaD,yW,km,qq]at c;subst c;exact .v _
    .simp only[vaD,yW,km,qq]at c;subst c;exact C
    .simp only[vaD,yW,km,qq]at c;subst c;exact E
    .simp only[vaD,yW,km,qq]at c;subst c;exact F
    .simp[vaD]at c
  rw[l]at p;exact p
def pF (x:Va):A1:=.agg [.d (.v (.i x.k)),.d (.v (.i x.n)),.d (.v (.i x.a)),.d (.v (.string x.s)),.d (.s 7 (vasD x.args)),.d (.s 2 (tysD x.types)),.d (.s 5 (ndsD x.code))]
def FJ{x:Va}{v:cm}(h:aA ok w x v):gm (λ_=>none) ok w (pF x) v:=by obtain⟨i,j,o,p,l,m,rfl,e,f,g⟩:=y9 h;have⟨k,n,a,s,c,b,d⟩:=x;exact⟨_,rfl,.v _,.v _,.v _,.v _,e,f,g,trivial⟩
def BC{x:Va}{v:cm}(h:aA ok w x v):okV x:=by
 induction h with
 | mk V n m p e f l g j a c o q k =>
  rename_i b;exact⟨⟨l,g,j,f⟩,okVs_at.2 (λT a=>by obtain⟨i,d,rfl⟩:=qc3 a;exact k i d),(qV a b.2).1,Fw c⟩
def rep_rowV:∀(N:Nat) {ts:ao}{a:bj}{l c:Nat},vsizes ts<=N->okVs ts->fI ok w (.s 7 (vasD ts)) (.slice a l c)->l=ts.length/\ts.length<=c/\∃V,aT ok w ts a V:=λN=>by
 induction N with
 | zero =>
  intro ts a l c hN u h;have⟨a',c',U,e,h1,h2,h3,f⟩:=fH h;have G:ts=[]:=by
   cases ts with
   | nil=>rfl
   | cons T ts=>have:=eP T;simp only[vsizes]at hN;omega
  subst G;simp only[ye]at e;obtain⟨rfl,rfl,rfl⟩:=e;exact⟨rfl,h1,λ_=>.i 0,yb _,λi d=>absurd d oe,λi d=>absurd d oe⟩
 | succ N ih =>
  intro ts a l c hN u h;have⟨a',c',U,e,h1,h2,h3,f⟩:=fH h;have r:(vasD ts).length=ts.length:=KK
  simp only[ye]at e;obtain⟨rfl,rfl,rfl⟩:=e;have m:∀(i:Nat) (d:i<ts.length),(vasD ts)[i]?=some (vaD ts[i]):=λi d=>by rw[vasD_map,qa5,qt d];rfl
  have t:∀(l:ao) (x:Va),x∈l->x.size<=vsizes l:=λl=>by
   induction l with
   | nil=>intro x z;cases z
   | cons y l Z =>
    intro x z;simp only[vsizes];rcases ke.1 z with rfl|z
    .omega
    .have:=Z x z;omega
  have j:∀(i:Nat) (d:i<ts.length),∃v,AX ok w a i v/\aA ok w ts[i] v:=λi d=>by have Y:ts[i]∈ts:=yv d;have G:=t ts _ Y;have q:=okVs_at.1 u _ Y;have g:=m i d;generalize ts[i]=T at Y G q g;have⟨k,n,p,s,az,J,H⟩:=T;obtain⟨⟨b,o,rfl,hb,K⟩,r0⟩:=f i _ 0 _ g rfl;have⟨⟨b1,o1,e1,_,L⟩,r1⟩:=f i _ 1 _ g rfl;have⟨⟨b2,o2,e2,_,M⟩,r2⟩:=f i _ 2 _ g rfl;have⟨⟨b3,o3,e3,_,O⟩,r3⟩:=f i _ 3 _ g rfl;have⟨⟨b4,o4,D,_,A⟩,r4⟩:=f i _ 4 _ g rfl;have⟨⟨b5,o5,E,_,B⟩,r5⟩:=f i _ 5 _ g rfl;have⟨⟨b6,o6,F,_,C⟩,r6⟩:=f i _ 6 _ g rfl;simp only[qq,jb2,and_true]at e1 e2 e3 D E F;obtain⟨rfl,rfl⟩:=e1;obtain⟨rfl,rfl⟩:=e2;obtain⟨rfl,rfl⟩:=e3;obtain⟨rfl,rfl⟩:=D;obtain⟨rfl,rfl⟩:=E;obtain⟨rfl,rfl⟩:=F;have⟨aa,ac,_,D,_⟩:=fH r4;have⟨ta,tc,_,E,_⟩:=fH r5;have⟨na,nc,_,F,_⟩:=fH r6;rw[D]at r4 A;rw[E]at r5 B;rw[F]at r6 C;rw[bW r0]at K;rw[bW r1]at L;rw[bW r2]at M;rw[bW r3]at O;have⟨I,q2,q3,q4⟩:=q;simp only[Va.size]at G;have⟨_,S,V,P⟩:=ih od q2 r4;have⟨_,W,VT,R⟩:=rep_rowT _ (jn _) q3 r5;have⟨_,X,VN,Q⟩:=rep_rowN _ (jn _) q4 r6;rw[show (vasD az).length=az.length by simp[vasD_map]]at A;rw[show (tysD J).length=J.length by simp[tysD_map]]at B;rw[show (ndsD H).length=H.length by simp[ndsD_map]]at C;simp only[<-qg2]at K L M O A B C;exact⟨bg k n p s aa az.length ac ta J.length tc na H.length nc,⟨b,o,rfl,hb,k,n,p,s,aa,az.length,ac,ta,J.length,tc,na,H.length,nc,rfl,K,L,M,O,A,B,C⟩,aA.mk (hnk:=⟨X,W⟩) V VT VN P.1 S I.2.2.2 I.1 I.2.1 I.2.2.1 R Q P.2.1 P.2.2⟩
  refine⟨r,od,λi=>if d:i<ts.length then (j i d).choose else undef,od,λi d=>?_,λi d=>?_⟩
  .simp only[d,dite_true];exact (j i d).choose_spec.1
  .simp only[d,dite_true];exact (j i d).choose_spec.2
end
def qi (l:ao):A1:=.one (.d (.s 7 (vasD l)))
def lV{ok:br}{w:cg}{l:ao}{n:Nat}{v:cm}(hk:okVs l)(hn:n=7\/l=[])(h:fI ok w (.s n (vasD l)) v):∃a c V,v =.slice a l.length c/\l.length<=c/\aT ok w l a V:=by
 have h:fI ok w (.s 7 (vasD l)) v:=by
  rcases hn with rfl|rfl
  .exact h
  .exact gG h
 have⟨a,c,U,e,_⟩:=fH h;subst e;have⟨f,d,V,b⟩:=rep_rowV _ (jn _) hk h;exact⟨a,c,V,KK,d,b⟩
def b64 (n:Int):Bool:=decide (-9223372036854775808<=n)&&decide (n<9223372036854775808)
def i64{n:Int}(h:b64 n:=by rfl):bD n:=by unfold b64 at h;rw[qv,jt,jt]at h;unfold bD;omega
def xU{ok:br}{w:cg}{l:aE}{n:Nat}{v:cm}(hk:okNs l)(hn:n=5\/l=[])(h:fI ok w (.s n (ndsD l)) v):∃a c V,v =.slice a l.length c/\l.length<=c/\cK ok w l a V:=by
 have h:fI ok w (.s 5 (ndsD l)) v:=by
  rcases hn with rfl|rfl
  .exact h
  .exact gG h
 have⟨a,c,U,e,_⟩:=fH h;subst e;have⟨f,d,V,b⟩:=rep_rowN _ (jn _) hk h;exact⟨a,c,V,by simp[ndsD_map],d,b⟩
def yu{ok:br}{w:cg}{l:ao}{a:bj}{c:Nat}{V:bt}(h:aT ok w l a V)(hc:l.length<=c):fI ok w (.s 7 (vasD l)) (.slice a l.length c):=by have⟨o,p,j,m,f,g,e,i,_⟩:=y9 (aA.mk (hnk:=⟨yb _,yb _⟩) (k:=0) (n:=0) (a:=0) (s:=⟨#[]⟩) (types:=[]) (code:=[]) (ta:=none) (na:=none) (nc:=0) (tc:=0) V V V h.1 hc ov i64 i64 i64 (dw.nil _ _ _ _) (cK.nil _ _ _ _) h.2.1 h.2.2);simp only[bg,ja4,jc3,qb6,ye,and_true]at e;have⟨_,_,_,_,⟨b,_,d⟩,_⟩:=e;subst b d;exact i
noncomputable def TF (post:St):Option (Nat×St×List Sp×Obl)->Option (Nat×List Sp×List Prop×List Prop×List (Option AV))
 | some (e,σ,C,ob)=>if (get σ (1000001,0)).isNone then some (e,C,(ob.filter λp=>!p.1).map (·.2),(ob.filter λp=>p.1).map (·.2),post.map λx=>EI σ x.1)else none
 | none=>none
def Ll{post:St}{r:Option (Nat×St×List Sp×Obl)}{e:Nat}{g:HL}{ob:List Prop}(h:TF post r=some (e,[],(g.map (·.1)).map (λs=>s.need=s.need),ob,post.map λx=>some x.2))(c:∀p∈ob,p) :
 ∃σ a,r=some (e,σ,[],a)/\(∀p∈a,p.2)/\(∀x∈post,EI σ x.1=some x.2)/\(get σ (1000001,0)).isNone:=by
 unfold TF at h;split at h<;>try (cases h;done)
 rename_i m σ C a;split at h<;>try (cases h;done)
 rename_i b;simp only[qq,js]at h;obtain⟨rfl,rfl,i,j,k⟩:=h;refine⟨σ,a,rfl,λp f=>?_,λx l=>?_,b⟩
 .cases d:p.1 with
  | false =>
   have : p.2∈(a.filter λp=>!p.1).map (·.2):=kl.2 ⟨p,jb4.2 ⟨f,by simp[d]⟩,rfl⟩;rw[i]at this;have⟨s,_,e⟩:=kl.1 this;exact e ▸ trivial
  | true =>
   have : p.2∈(a.filter λp=>p.1).map (·.2):=kl.2 ⟨p,jb4.2 ⟨f,d⟩,rfl⟩;rw[j]at this;exact c _ this
 .exact jf7.1 k x l
def xQ{nt:Nat}{b:Code}{pre a:St}{e:Nat}(T:Hints)(d:HL){ob:List Prop}(c:∀p∈ob,p)(h:TF a (Dt prog T [] nt b (d.map (·.1)) pre)=some (e+1,[],(d.map (·.1)).map (λs=>s.need=s.need),ob,a.map λx=>some x.2):=by kernel_rfl)(hc:closed a:=by kernel_rfl):vO prog nt ⟨b,pre,e+1,a⟩:=by have⟨σ,l,f,g,i,j⟩:=Ll h c;exact Un mixed (L:=[]) oe f (λs k=>by obtain⟨x,_,rfl⟩:=kl.1 k;exact x.2) g i hc j
def LG{nt:Nat}{a:Code}{pre b pre2:St}{ex:Nat}(T:Hints)(d:HL){ob:List Prop}(j:vO prog nt ⟨a,pre2,ex,b⟩)(c:∀p∈ob,p)(h:TF pre2 (Dt prog T [] nt a (d.map (·.1)) pre)=some (0,[],(d.map (·.1)).map (λs=>s.need=s.need),ob,pre2.map λx=>some x.2):=by kernel_rfl)(hc:closed pre2:=by kernel_rfl):vO prog nt ⟨a,pre,ex,b⟩:=by have⟨σ,l,e,f,g,i⟩:=Ll h c;exact Uo mixed (L:=[]) oe e (λs k=>by obtain⟨x,_,rfl⟩:=kl.1 k;exact x.2) f g hc i j
def acr{nt:Nat}{b:Code}{pre a:St}{e:Nat}(T:Hints)(L:List Lp)(k:∀l∈L,vO prog nt l)(d:HL){ob:List Prop}(c:∀p∈ob,p)(h:TF a (Dt prog T L nt b (d.map (·.1)) pre)=some (e+1,[],(d.map (·.1)).map (λs=>s.need=s.need),ob,a.map λx=>some x.2):=by kernel_rfl)(hc:closed a:=by kernel_rfl):vO prog nt ⟨b,pre,e+1,a⟩:=by have⟨σ,n,f,g,i,j⟩:=Ll h c;exact Un mixed k f (λs m=>by obtain⟨x,_,rfl⟩:=kl.1 m;exact x.2) g i hc j
def XQ{nt:Nat}{a:Code}{pre b pre2:St}{ex:Nat}(T:Hints)(L:List Lp)(j:∀l∈L,vO prog nt l)(d:HL){ob:List Prop}(k:vO prog nt ⟨a,pre2,ex,b⟩)(c:∀p∈ob,p)(h:TF pre2 (Dt prog T L nt a (d.map (·.1)) pre)=some (0,[],(d.map (·.1)).map (λs=>s.need=s.need),ob,pre2.map λx=>some x.2):=by kernel_rfl)(hc:closed pre2:=by kernel_rfl):vO prog nt ⟨a,pre,ex,b⟩:=by have⟨σ,n,e,f,g,i⟩:=Ll h c;exact Uo mixed j e (λs m=>by obtain⟨x,_,rfl⟩:=kl.1 m;exact x.2) f g hc i k
abbrev kC (f:Func) (i:Nat):Code:=((loopsOf (f.body.getD .skip))[i]?).getD .skip
abbrev jA (m:Nat):A1:=.one (.d (.v (.i (.ofNat m))))
def mD (x:AV) (a:A1):Prop:=some x=some (.of a)
def Bc{α:Type} : ∀(n:Nat) (l:List α),n<=l.length->xw n l=some (l.drop n)
 | 0,l,_=>rfl
 | n+1,x::l,h=>Bc n l (by simpa using h)
def Cu{α:Type} : ∀(n:Nat) (l:List α),n<=l.length->nH n l=some (l.take n)
 | 0,l,_=>rfl
 | n+1,x::l,h=>by simp[nH,Cu n l (by simpa using h)]
def eY(s:aw):(tysD s).length=s.length:=by simp[tysD_map]
def Er(s:aw)(k:Nat):(tysD s).drop k=tysD (s.drop k):=by simp[tysD_map,List.map_drop]
def Es(s:aw)(k:Nat):(tysD s).take k=tysD (s.take k):=by simp[tysD_map,List.map_take]
def is_le{a b:Int}(h:a<=b):mD (aQ (decide (a<=b))) (bA true):=by simp[mD,h,aQ,bA]
def QA{a b:Int}(h:¬a<=b):mD (aQ (decide (a<=b))) (bA false):=by simp[mD,h,aQ,bA]
def is_lt{a b:Int}(h:a<b):mD (aQ (decide (a<b))) (bA true):=by simp[mD,h,aQ,bA]
def wH{a b:Int}(h:¬a<b):mD (aQ (decide (a<b))) (bA false):=by simp[mD,h,aQ,bA]
def yY{a b:Int}(h:a=b):mD (lW a) (iA b):=by rw[h];rfl
def OQ (s:aw) (m:Nat) (t:Int) (a:aw):Prop:=Bp 2 2 (tysD s) m=some (.of (.one (.e (tyD (.nd t a)) 0)))
def EK{s:aw}{m:Nat}{t:Int}{a:aw}(h:s[m]?=some (.nd t a)):OQ s m t a:=by unfold OQ Bp;rw[tysD_map,qa5,h];rfl
def Qf{s:aw}{m:Nat}(h:m<=s.length):qA 2 (tysD s) (some 0) (some (some m))=some (.of (dZ (s.take m))):=by simp only[qA];rw[Cu _ _ (by rw[eY];exact h),Es];rfl
def Qg{s:aw}{m:Nat}(h:m<=s.length):qA 2 (tysD s) (some m) (some none)=some (.of (dZ (s.drop m))):=by simp only[qA];rw[Bc _ _ (by rw[eY];exact h),Er];rfl
def TU{s:aw}{l m:Nat}(h:m<=s.length)(a:l<=m):qA 2 (tysD s) (some l) (some (some m))=some (.of (dZ ((s.take m).drop l))):=by simp only[qA];rw[Cu _ _ (by rw[eY];exact h),Es,Option.bind_some,Bc _ _ (by rw[eY];simp;omega),Er];rfl
def zF{a b:Int}(h:a=b)(c:0<=b)(d:b<=1000000000):IntKind.i64.wrap a=b:=by subst h;rw[qa2];omega
def al0:∀q∈([]:List Prop),q:=λq h=>by simp at h
def al{p:Prop}{ps:List Prop}(h:p)(t:∀q∈ps,q):∀q∈p::ps,q:=λq a=>by
 rcases ke.1 a with rfl|a
 .exact h
 .exact t q a
def nq (a k:Int):Prop:=some (aQ (decide (a=k)))=some (.of (bA false))
def oL{a k:Int}(h:a≠k):nq a k:=by simp[nq,h,aQ,bA]
abbrev fA:A1:=bA false
def jJ (b v:Bool):Prop:=some (aQ b)=some (.of (bA v))
def eT{b v:Bool}(h:b=v):jJ b v:=by rw[h];rfl
def wI{S:St}{q:Prop}(b:q){ps:List Prop}(h:∀p∈ps,p):∀p∈ps++(q::S.map (λx=>some x.2=some x.2)),p:=λp a=>by
 rcases ka.1 a with a|a
 .exact h p a
 .rcases ke.1 a with rfl|a
  .exact b
  .obtain⟨x,_,rfl⟩:=kl.1 a;rfl
def LH{ok:br}{w:cg}{t:Tr}{v:cm}(h:bI ok w t v):okN t/\gm (λ_=>none) ok w (ndA t) v:=by obtain⟨b,k,n,p,s,a,c,e,rfl,d⟩:=qL h;refine⟨b,?_⟩;rw[e];exact⟨_,rfl,.v _,.v _,.v _,.v _,by rw[<-e];exact d,trivial⟩
abbrev gF (f:Func):Code:=(loopOf (f.body.getD .skip)).getD .skip
def Xk {α:Type} : List (Bool×α)->List α
 | []=>[]
 | (true,x)::l=>x::Xk l
 | (false,_)::l=>Xk l
def IM{b:Bool}{p:Prop}{l:List (Bool×Prop)}(h:p)(t:∀q∈Xk l,q):∀q∈Xk ((b,p)::l),q:=by
 cases b with
 | false=>exact t
 | true=>exact al h t
def askedX:Option (AV×(List (Option (List X))×List (Option AV))×List Sp×Obl)->Option ((AV×(List (Option (List X))×List (Option AV)))×List Sp×List Prop×List Prop)
 | some (v,ys,C,ob)=>some ((v,ys),C,(ob.filter λp=>!p.1).map (·.2),(ob.filter λp=>p.1).map (·.2))
 | none=>none
abbrev HX (f:FuncId) (args:List A1) (res:AV) (H H':Hp):Prop:=Hd (@Sp.mk f args res mv0 fr0 ⟨H,H'⟩)
abbrev hK (n:Nat):Nat:=800000+100*n
abbrev HB (f:FuncId) (xs:List X) (args:List A1) (res:AV) (ys:List X):Prop:=HX f (.one (.p (hK xs.length) 0)::args) res ⟨[(hK xs.length,xs)],[]⟩ ⟨[(hK xs.length,ys)],[]⟩
def bH{f:FuncId}{fn:Func}(q:prog.funcs[f]?=some fn)(T:Hints)(L:List Lp)(g:HL){args:List A1}{res:AV}{d a:Hp}{ob:List Prop}(n:∀β,∀l∈L,@vO (qh β) prog fn.ntmps l)
 (hob:∀p∈ob,p) (h:askedX (evX prog fn (fn.body.getD .skip) T L (g.map (·.1)) args d a)=some ((res,(a.bx.map (λe=>some e.2),a.ls.map (λe=>some e.2))),[],(g.map (·.1)).map (λs=>s.need=s.need),ob):=by kernel_rfl)
 (hno:(@Sp.mk f args res mv0 fr0 ⟨d,a⟩).no=false:=by rfl) (hb:fn.body.isSome:=by kernel_rfl) (hn:(fn.name == "runtime.NumGoroutine")=false:=by kernel_rfl):HX f args res d a:=by
 have⟨c,i⟩:=qf1.1 hb;rw[i]at h;unfold askedX at h;split at h<;>try (cases h;done)
 rename_i v zs C b o;simp only[qq,js]at h;obtain⟨⟨rfl,rfl⟩,rfl,k,m⟩:=h;refine acj mixed q i hn T L _ hno (λs r=>by obtain⟨x,_,rfl⟩:=kl.1 r;exact x.2) n o (λp j=>?_)
 cases hb:p.1 with
 | false =>
  have : p.2∈(b.filter λp=>!p.1).map (·.2):=kl.2 ⟨p,jb4.2 ⟨j,by simp[hb]⟩,rfl⟩;rw[k]at this;have⟨s,_,e⟩:=kl.1 this;exact e ▸ trivial
 | true =>
  have : p.2∈(b.filter λp=>p.1).map (·.2):=kl.2 ⟨p,jb4.2 ⟨j,hb⟩,rfl⟩;rw[m]at this;exact hob _ this
def HX.to{f:FuncId}{args c:List A1}{res d:AV}{H H' K i:Hp}(h:HX f args res H H')(a b:Nat)(e:(args.map (A1.sw a b),res.sw a b,H.sw a b,H'.sw a b)=(c,d,K,i):=by rfl)(hc:(a<1000000/\b<1000000)\/(2000000<=a/\2000000<=b):=by decide)(g:(@Sp.mk f args res mv0 fr0 ⟨H,H'⟩).no=false:=by rfl):HX f c d K i:=by simp only[js]at e;obtain⟨rfl,rfl,rfl,rfl⟩:=e;exact Holds.sw h a b hc g
def HX.post{f:FuncId}{args:List A1}{res c:AV}{H H' g:Hp}(h:HX f args res H H')(a b:Nat)(e:(res.sw a b,H'.sw a b)=(c,g):=by rfl)(hc:2000000<=a/\2000000<=b:=by decide)(d:(@Sp.mk f args res mv0 fr0 ⟨H,H'⟩).no=false:=by rfl):HX f args c H g:=by simp only[js]at e;obtain⟨rfl,rfl⟩:=e;exact Holds.swP h a b hc d
def HX.conv{f:FuncId}{args:List A1}{b res:AV}{H H':Hp}(h:HX f args b H H')(j:∀β ok w v,iZ β ok w b v->iZ β ok w res v)(nk:res.keys.all H'.lk:=by rfl)(a:(@Sp.mk f args b mv0 fr0 ⟨H,H'⟩).no=false:=by rfl):HX f args res H H':=by refine⟨⟨h.OT.1,nk⟩,?_⟩;show (match (@Sp.mk f args res mv0 fr0 ⟨H,H'⟩).no with|false=>yc prog f args res H H'|true=>_);rw[show (@Sp.mk f args res mv0 fr0 ⟨H,H'⟩).no=false from a];exact λβ ok w l hF k=>(h.bH a β ok w l hF k).mono λe m ⟨β',c,d,v,g,i⟩=>⟨β',c,d,v,g,j _ _ _ _ i⟩
def Oq{R:pq}{a:HL}(hm:((a.map (·.1)).all λs=>s.mv.p.isNone)):∀s∈a.map (·.1),@Holds R prog s:=λs b=>by have:=ki.1 hm s b;obtain⟨x,_,rfl⟩:=kl.1 b;exact @Holds.any res0 R _ _ x.2 (by simpa using this)
def fF{β:Nat->Option Nat}{nt:Nat}{b:Code}{pre a:St}{e:Nat}(T:Hints)(c:HL){ob:List Prop}(d:∀p∈ob,p)(h:TF a (Dt prog T [] nt b (c.map (·.1)) pre)=some (e+1,[],(c.map (·.1)).map (λs=>s.need=s.need),ob,a.map λx=>some x.2):=by kernel_rfl)(hc:closed a:=by kernel_rfl)(hm:((c.map (·.1)).all λs=>s.mv.p.isNone):=by kernel_rfl) : @vO (qh β) prog nt ⟨b,pre,e+1,a⟩:=by have⟨σ,k,f,g,i,j⟩:=Ll h d;exact @Un (qh β) _ mixed _ _ _ _ _ _ _ _ _ _ [] oe f (Oq hm) g i hc j
def jC{β:Nat->Option Nat}{nt:Nat}{a:Code}{pre b pre2:St}{ex:Nat}(T:Hints)(c:HL){ob:List Prop}(j : @vO (qh β) prog nt ⟨a,pre2,ex,b⟩)(d:∀p∈ob,p)(h:TF pre2 (Dt prog T [] nt a (c.map (·.1)) pre)=some (0,[],(c.map (·.1)).map (λs=>s.need=s.need),ob,pre2.map λx=>some x.2):=by kernel_rfl)(hc:closed pre2:=by kernel_rfl)(hm:((c.map (·.1)).all λs=>s.mv.p.isNone):=by kernel_rfl) : @vO (qh β) prog nt ⟨a,pre,ex,b⟩:=by have⟨σ,k,e,f,g,i⟩:=Ll h d;exact @Uo (qh β) _ mixed _ _ _ _ _ _ _ _ _ _ _ [] oe e (Oq hm) f g hc i j
open Go.ChangeShapes Go.WideShapes Go.ChangeAt Go.RowKit
def gI(g o x:Nat):(⟨g,o,none⟩:Addr).add x=⟨g,o+x,none⟩:=ZS
def oCq{w:cg}{B:Nat}{e:TypeId}{size n g cap:Nat}{xs:bo}(h:w.ownsRow B e size (.o g n cap) n xs):n<=cap/\cap<=maxLen:=by
 rcases h.2 with⟨a,_⟩|⟨i,b,c,a,_,_,d,f,_⟩
 .simp at a
 .simp only[ye,true_and]at a;rw[a.2];exact⟨d,f⟩
def dE{T:Ty}(h:au T):j5 1 T/\T.size<=300/\keyedF T:=by simp only[au,qv,jt]at h;exact⟨h.1.1,h.1.2,h.2⟩
def rO:(prog.info? 25).map (λi=>(i.zero,i.size,i.bytes))=some (some (.agg #[.i 0,.n0]),2,32):=oA
def tyCells:cm->bo
 | .agg xs=>xs.toList
 | _=>[]
def bX (vs:bo):bo:=vs.flatMap tyCells
def OTq (B:Nat) (w:cg) (v:cm) (vs:bo):Prop:=w.ownsRow B 25 2 v vs.length (bX vs)
def dx(a b:bo):bX (a++b)=bX a++bX b:=by simp[bX]
structure Oz (H:Nat) (w:cg) (v:cm) (ts:aw) (vs:bo):Prop where
 own:OTq H w v vs
 len:vs.length=ts.length
 lies:∀(i:Nat) (t:Ty) (u:cm),ts[i]?=some t->vs[i]?=some u->aH (λb=>H<=b/\some b≠v.ownBlock) w t u
def flatT_get:∀(vs:bo),(∀u∈vs,(tyCells u).length=2)->∀(i j:Nat) (u:cm),vs[i]?=some u->j<2->(bX vs)[i*2+j]?=(tyCells u)[j]?
 | [],_,i,j,u,h,_=>by simp at h
 | x::vs,a,0,j,u,h,c=>by simp at h;subst h;have:=a x oe;simp only[bX,qd0];rw[kO od];simp
 | x::vs,a,i+1,j,u,h,c=>by have b:=a x oe;have:=flatT_get vs (λu d=>a u (by simp[d])) i j u (by simpa using h) c;simp only[bX,qd0]at this|-;rw[zE od,b,show (i+1)*2+j - 2=i*2+j from by omega];exact this
def aH.bY{ok:br}{w:cg}{t:Ty}{u:cm}(h:aH ok w t u):∃k a l c,u=bY k a l c:=by cases h;exact⟨_,_,_,_,rfl⟩
def Oz.done{H:Nat}{w:cg}{v:cm}{ts:aw}{vs:bo}(h:Oz H w v ts vs) :
 ∃(a:bj) (c:Nat) (V:bt),v =.slice a ts.length c/\(∀i,i<ts.length->rC (H <= ·) w a i (V i))/\(∀i (hi:i<ts.length),aH (H <= ·) w ts[i] (V i)):=by
 have F:=h.len;have f:∀i (hi:i<ts.length),∃u,vs[i]?=some u/\aH (H <= ·) w ts[i] u:=by
  intro i hi;have z:i<vs.length:=od
  exact⟨vs[i],qt z,(h.lies i ts[i] vs[i] (qt hi) (qt z)).ae (λb _ B=>B.1)⟩
 have r:∀u∈vs,(tyCells u).length=2:=by intro u I;obtain⟨i,hi,rfl⟩:=qc3 I;have⟨u,e,m⟩:=f i od;rw[qt hi]at e;simp at e;have⟨k,a,l,c,o⟩:=m.bY;rw[e,o];rfl
 have t:=h.own;unfold OTq at t;rcases t.2 with⟨rfl,h0⟩|⟨g,p,A,rfl,s,K,G,C,D,y⟩
 .have q:ts.length=0:=by omega
  exact⟨none,0,λ_=>.i 0,by rw[q],λi hi=>od,λi hi=>od⟩
 .refine⟨some ⟨g,0,none⟩,p,λi=>(vs[i]?).getD (.i 0),by rw[F],λi hi=>?_,λi hi=>?_⟩
  .have⟨u,e,m⟩:=f i hi;have⟨k,a,l,c,o⟩:=m.bY;have d:∀j x,j<2->(tyCells u)[j]?=some x->w.cell? ⟨g,i*2+j,none⟩=some x:=by
    intro j x E J;have:=qd4 t (g:=g) rfl (i*2+j) x (by rw[flatT_get vs r i j u e E];exact J);have n:(⟨g,0,none⟩:Addr).add (i*2+j)=⟨g,i*2+j,none⟩:=ZS
    rwa [n]at this
   rw[o]at d;refine⟨g,0,rfl,s,k,a,l,c,by show (vs[i]?).getD _=_;rw[e];exact o,?_,?_⟩
   .have:=d 0 _ od rfl;simpa using this
   .have:=d 1 _ od rfl;simpa using this
  .have⟨u,e,m⟩:=f i hi;show aH _ _ _ ((vs[i]?).getD _);rw[e];exact m
mutual
def sameT:Ty->Ty->Bool
 | .nd t xs,.nd u ys=>decide (t=u)&&sameTs xs ys
def sameTs:aw->aw->Bool
 | [],[]=>true
 | a::xs,b::ys=>sameT a b&&sameTs xs ys
 | [],_::_=>false
 | _::_,[]=>false
end
mutual
def sameT_refl:∀t,sameT t t
 | .nd t a=>by simp[sameT,sameTs_refl a]
def sameTs_refl:∀l,sameTs l l
 | []=>by simp[sameTs]
 | t::a=>by simp[sameTs,sameT_refl t,sameTs_refl a]
end
def sameTs_len:∀{a b:aw},sameTs a b->a.length=b.length
 | [],[],_=>rfl
 | _::_,[],h=>by simp[sameTs]at h
 | [],_::_,h=>by simp[sameTs]at h
 | a::c,b::d,h=>by simp only[sameTs,qv]at h;simp[sameTs_len h.2]
def sw (w:cg) (t:Int) (a:bj) (l c:Nat) (t2:Int) (a2:bj) (l2 c2:Nat):cg :=
 (((((w.alloc (.cells #[.i t,.slice a l c] 25)).alloc (.cells #[.i t2,.slice a2 l2 c2] 25)).alloc (.cells #[.i t,.slice a l c] 25)).alloc (.cells #[.i t2,.slice a2 l2 c2] 25)).alloc
   (.cells #[.o (w.heap.size+1+1) 1 1,.o (w.heap.size+1+1+1) 1 1] 124)).alloc (.cells #[.o (w.heap.size+1+1+1+1) 1 1] 125)
def gP (a b:Int):Int:=if a<b then -1 else if b<a then 1 else 0
def Jn (s t:bp):Int:=if Op.bytesLess s.toList t.toList then -1 else if s.toList=t.toList then 0 else 1
mutual
def qg (c:Va->Va->Int):Va->Va->Int
 | .mk k n a s args ty co,y=>if c (.mk k n a s args ty co) y≠0 then c (.mk k n a s args ty co) y else eO c args y.args
def eO (c:Va->Va->Int):ao->ao->Int
 | [],[]=>0
 | [],_::_=>-1
 | _::_,[]=>1
 | x::xs,y::ys=>if qg c x y≠0 then qg c x y else eO c xs ys
end
def FB(c:Va->Va->Int)(x y:Va):qg c x y=if c x y≠0 then c x y else eO c x.args y.args:=by
 cases x;rw[qg];rfl
def Eg(c:Va->Va->Int)(x y:Va):eO c [x] [y]=qg c x y:=by
 rw[eO,eO]
 by_cases h:qg c x y=0
 .rw[if_neg (by simpa using h),h]
 .rw[if_pos h]
def XN (c:Va->Va->Int):List (ao×ao)->Int
 | []=>0
 | r::R=>if eO c r.1 r.2≠0 then eO c r.1 r.2 else XN c R
def jL (c:Va->Va->Int) (rows:List (ao×ao)):Int:=XN c rows.reverse
def o9(c:Va->Va->Int)(rows:List (ao×ao))(r:ao×ao):jL c (rows++[r])=if eO c r.1 r.2≠0 then eO c r.1 r.2 else jL c rows:=by simp[jL,XN]
def Vl(c:Va->Va->Int)(r:ao×ao):jL c [r]=eO c r.1 r.2:=by
 have:=o9 c [] r;rw[qe4]at this;rw[this]
 by_cases h:eO c r.1 r.2=0
 .rw[if_neg (by simpa using h),h];rfl
 .rw[if_pos h]
def Vm(c:Va->Va->Int)(rows:List (ao×ao)):jL c (rows++[([],[])])=jL c rows:=by rw[o9];simp[eO]
def Vh(c:Va->Va->Int)(rows:List (ao×ao))(x y:ao)(h:x=[]\/y=[])(f:¬(x=[]/\y=[])):jL c (rows++[(x,y)])=gP x.length y.length:=by
 rw[o9]
 cases x with
 | nil=>cases y with
  | nil=>simp at f
  | cons b y =>
   have d:eO c [] (b::y) = -1:=by rw[eO]
   have e:gP (([]:ao).length:Nat) ((b::y).length:Nat) = -1:=by rw[gP,if_pos oe]
   rw[e];simp[d]
 | cons a x=>cases y with
  | nil =>
   have d:eO c (a::x) []=1:=by rw[eO]
   have e:gP ((a::x).length:Nat) (([]:ao).length:Nat)=1:=by rw[gP,if_neg ot,if_pos oe]
   rw[e];simp[d]
  | cons b y=>simp at h
def Vn(c:Va->Va->Int)(rows:List (ao×ao))(x y:Va)(xs ys:ao)(h:c x y≠0):jL c (rows++[(x::xs,y::ys)])=c x y:=by
 have a:qg c x y=c x y:=by rw[FB,if_pos h]
 have b:eO c (x::xs) (y::ys)=c x y:=by rw[eO,a,if_pos h]
 rw[o9];simp only[b];rw[if_pos h]
def RZ(c:Va->Va->Int)(rows:List (ao×ao))(x y:Va)(xs ys:ao)(h:c x y=0):jL c (rows++[(x::xs,y::ys)])=jL c (rows++[(xs,ys)]++[(x.args,y.args)]):=by
 have b:qg c x y=eO c x.args y.args:=by rw[FB,if_neg (by simpa using h)]
 rw[o9,o9,o9];simp only;rw[eO,b]
 by_cases a:eO c x.args y.args=0
 .simp[a]
 .rw[if_pos a,if_pos a];simp[a]
def leftV (rows:List (ao×ao)):Nat:=(rows.map λr=>2*vsizes r.1+1).sum
def iQ(a b:List (ao×ao)):leftV (a++b)=leftV a+leftV b:=by simp[leftV]
def jW(r:ao×ao):leftV [r]=2*vsizes r.1+1:=by simp[leftV]
def NI(rows:List (ao×ao)):rows.length<=leftV rows:=by
 induction rows with
 | nil=>simp
 | cons r l a=>simp only[leftV,qb2,je6,jj]at a|-;omega
def nQ (x y:Va):Int:=if gP x.n y.n≠0 then gP x.n y.n else Jn x.s y.s
def gT (x y:Va):Int:=qg nQ x y
def zeroVa:Va:=.mk 0 0 0 ⟨#[]⟩ [] [] []
def fU (v:Va):Va:=match v.args with
 | []=>zeroVa
 | x::_=>x
def risesF:ao->Bool
 | []=>true
 | [_]=>true
 | x::y::l=>decide (gT (fU x) (fU y)<0)&&risesF (y::l)
def kE (n:Int):Bool:=decide (-1152921504606846976<=n/\n<=1152921504606846976)
def gN (n:Int):Bool:=decide (0<=n/\n<=1152921504606846976)
def lY (n:Int):Bool:=decide (0<=n/\n<12)
def bQ (t n:Int):Bool :=
 if t=2\/t=12 then decide (n=0\/n=1)else if t=3 then kE n else if t=4\/t=5\/t=8 then gN n
 else if t=15 then gN n&&decide (n≠0)else if t=7 then lY n else decide (n=0)
def oneGood:aw->Bool
 | []=>false
 | [u]=>au u
 | _::_::_=>false
def J3{l:aw}(h:l.length≠1):oneGood l=false:=by
 match l,h with
 | [],_=>rfl
 | [_],h=>simp at h
 | _::_::_,_=>rfl
def eZ (T:Ty) (types:aw):Bool :=
 if T.t=8 then oneGood types else if T.t=14 then sameTs types T.args else decide (types.length=0)
def eX (T:Ty) (v:Va):Bool :=
 decide (v.k=T.t)&&bQ T.t v.n&&(decide (v.a=0)||decide (T.t=8\/T.t=15)&&lY v.a)&&(decide (v.s.size=0)||decide (T.t=6)&&decide (v.s.size<=200)) &&
 eZ T v.types&&(decide (v.code.length=0)||decide (T.t=14))
def bB (l:aw) (i:Nat):Ty:=(l[i]?).getD (.nd 0 [])
def bS (T:Ty) (v:Va):Option aw :=
 let l:=v.args.length
 if T.t=8 then (if l=v.types.length then some v.types else none)
 else if T.t=9/\l=0 then some []
 else if T.t=10 then (if l<=24 then some (List.replicate l (bB T.args 0))else none)
 else if T.t=13 then (if l<=24 then some (List.replicate l (.nd 11 T.args))else none)
 else if T.t=12 then (if l=1 then some [bB T.args v.n.toNat]else none)
 else if T.t=14 then (if l=0 then some []else none)
 else if l=T.args.length then some T.args else none
mutual
def hasV:Va->Ty->Bool
 | .mk k n a s args types code,T=>eX T (.mk k n a s args types code)&&(match bS T (.mk k n a s args types code)with
  | none=>false
  | some ts=>hasVs args ts)&&(!decide (T.t=13)||risesF args)
def hasVs:ao->aw->Bool
 | [],[]=>true
 | v::vs,T::ts=>hasV v T&&hasVs vs ts
 | [],_::_=>false
 | _::_,[]=>false
end
def pY (T:Ty) (v:Va):Bool:=au T&&hasV v T
def lU (p:Ty×Va):Bool:=hasV p.2 p.1
def partsOf (T:Ty) (v:Va):Option (List (Ty×Va)):=(bS T v).map λts=>ts.zip v.args
def hasVs_zip:∀(vs:ao) (ts:aw),vs.length=ts.length->hasVs vs ts=(ts.zip vs).all lU
 | [],[],_=>by simp[hasVs]
 | _::_,[],h=>by simp at h
 | [],_::_,h=>by simp at h
 | v::vs,T::ts,h=>by have a:=hasVs_zip vs ts (by simpa using h);simp[hasVs,a,lU]
def rE{T:Ty}{v:Va}{ts:aw}(h:bS T v=some ts):v.args.length=ts.length:=by
 unfold bS at h;simp only at h
 repeat' split at h
 all_goals first|(simp at h;done)|(simp only[qq]at h;subst h;simp_all)
def Lu(T:Ty)(v:Va):hasV v T=(eX T v&&(match partsOf T v with
 | none=>false
 | some ps=>ps.all lU)&&(!decide (T.t=13)||risesF v.args)):=by
 cases v with
 | mk k n a s args b c =>
  rw[hasV,partsOf]
  cases h:bS T (.mk k n a s args b c)with
  | none=>rfl
  | some d =>
   have:=rE h;simp only[qf4];rw[hasVs_zip args d this];rfl
def yg (p:Ty×Va):Nat:=p.2.size
def dP (C:List (Ty×Va)):Nat:=(C.map yg).sum
def lN(a b:List (Ty×Va)):dP (a++b)=dP a+dP b:=by simp[dP]
def DK(p:Ty×Va):dP [p]=p.2.size:=by simp[dP,yg]
def NH(C:List (Ty×Va)):C.length<=dP C:=by
 induction C with
 | nil=>simp
 | cons r l a=>have:=qZ r.2;simp only[dP,qb2,je6,jj,yg]at a|-;omega
def leftP_zip:∀(ts:aw) (vs:ao),ts.length=vs.length->dP (ts.zip vs)=vsizes vs
 | [],[],_=>by simp[dP,vsizes]
 | _::_,[],h=>by simp at h
 | [],_::_,h=>by simp at h
 | T::ts,v::vs,h=>by
  have a:=leftP_zip ts vs (by simpa using h);have e:dP ((T::ts).zip (v::vs))=v.size+dP (ts.zip vs):=by simp[dP,yg]
  rw[e,a,vsizes]
def Sgn (p:Int):Prop:=p = -1\/p=0\/p=1
def EG (p q r:Int):Prop:=p<=0->q<=0->r<=0/\(r=0 ↔ p=0/\q=0)
def tu (p q:Int):Int:=if p≠0 then p else q
def uA{p q:Int}(a:Sgn p)(b:Sgn q):Sgn (tu p q):=by unfold tu;split<;>assumption
def tO{p q:Int} : -tu p q=tu (-p) (-q):=by
 unfold tu
 by_cases h:p=0
 .simp[h]
 .rw[if_pos h,oc]
def xP{d p2 e g f h:Int}(i:EG d e f)(j:EG p2 g h):EG (tu d p2) (tu e g) (tu f h):=by
 unfold EG tu at *;intro k l
 by_cases a:d=0<;>by_cases b:e=0<;>by_cases c:f=0<;>simp[a,b,c]at k l i j|- <;> omega
def Gl(a b:Int):Sgn (gP a b):=by unfold Sgn gP;split<;>(try split)<;>simp
def Gi(a b:Int):gP b a = -gP a b:=by unfold gP;split<;>split<;>(try split)<;>omega
def Gj(a b c:Int):EG (gP a b) (gP b c) (gP a c):=by unfold EG gP;split<;>split<;>split<;>(try split)<;>(try split)<;>(try split)<;>omega
def cmpL:bw->bw->Int
 | [],[]=>0
 | [],_::_=>-1
 | _::_,[]=>1
 | a::x,b::y=>tu (gP a.toNat b.toNat) (cmpL x y)
def cmpL_sgn:∀x y,Sgn (cmpL x y)
 | [],[]=>.inr (.inl rfl)
 | [],_::_=>.inl rfl
 | _::_,[]=>.inr (.inr rfl)
 | a::x,b::y=>uA (Gl _ _) (cmpL_sgn x y)
def cmpL_neg:∀x y,cmpL y x = -cmpL x y
 | [],[]=>rfl
 | [],_::_=>rfl
 | _::_,[]=>rfl
 | a::x,b::y=>by rw[cmpL,cmpL,tO,Gi,cmpL_neg x y]
def cmpL_on3:∀x y z,EG (cmpL x y) (cmpL y z) (cmpL x z)
 | [],[],[]=>by simp[EG,cmpL]
 | [],[],_::_=>by simp[EG,cmpL]
 | [],_::_,[]=>by simp[EG,cmpL]
 | [],_::_,_::_=>by simp[EG,cmpL]
 | _::_,[],_=>by intro h;simp[cmpL]at h
 | _::_,_::_,[]=>by intro _ h;simp[cmpL]at h
 | a::x,b::y,c::z=>xP (Gj _ _ _) (cmpL_on3 x y z)
def cmpL_zero:∀x y,cmpL x y=0 ↔ x=y
 | [],[]=>by simp[cmpL]
 | [],_::_=>by simp[cmpL]
 | _::_,[]=>by simp[cmpL]
 | a::x,b::y=>by
  have f:=cmpL_zero x y;have h:gP a.toNat b.toNat=0 ↔ a=b:=by
   constructor
   .intro h;unfold gP at h;split at h
    .cases h
    .split at h
     .cases h
     .exact UInt8.toNat_inj.1 od
   .rintro rfl;simp[gP]
  simp only[cmpL,tu,qb6]
  by_cases d:gP a.toNat b.toNat=0
  .have e:=h.1 d;rw[if_neg (by simpa using d),f];exact⟨λc=>⟨e,c⟩,λc=>c.2⟩
  .simp only[ne_eq,d,not_false_eq_true,if_true,false_iff];intro c;exact d (h.2 c.1)
def less_cmpL:∀x y,Op.bytesLess x y=decide (cmpL x y<0)
 | [],[]=>rfl
 | [],_::_=>by simp[Op.bytesLess,cmpL]
 | _::_,[]=>by simp[Op.bytesLess,cmpL]
 | a::x,b::y=>by
  rw[Op.bytesLess,less_cmpL x y];have c:(a<b)=(a.toNat<b.toNat):=by rw[UInt8.lt_iff_toNat_lt]
  by_cases f:a.toNat<b.toNat
  .have d:gP a.toNat b.toNat = -1:=by rw[gP,oc]
   simp[cmpL,tu,d,c,f]
  .by_cases h:b.toNat<a.toNat
   .have d:gP a.toNat b.toNat=1:=by rw[gP,oa,oc]
    have e:¬a=b:=by rintro rfl;omega
    simp[cmpL,tu,d,c,f,e]
   .have d:gP a.toNat b.toNat=0:=by rw[gP,oa,oa]
    have g:a=b:=UInt8.toNat_inj.1 od;subst g;simp[cmpL,tu,d,c]
def M9(s t:bp):Jn s t=cmpL s.toList t.toList:=by
 unfold Jn;rw[less_cmpL];rcases cmpL_sgn s.toList t.toList with h|h|h
 .rw[h];simp
 .rw[h,if_neg oe,if_pos ((cmpL_zero _ _).1 h)]
 .rw[h,if_neg oe,if_neg (λe=>by rw[(cmpL_zero _ _).2 e]at h;cases h)]
def qN(x y:Va):nQ x y=tu (gP x.n y.n) (cmpL x.s.toList y.s.toList):=by unfold nQ;rw[M9];rfl
def Q8(x y:Va):Sgn (nQ x y):=by rw[qN];exact uA (Gl _ _) (cmpL_sgn _ _)
def Q6(x y:Va):nQ y x = -nQ x y:=by rw[qN,qN,tO,Gi,cmpL_neg]
def Q7(x y z:Va):EG (nQ x y) (nQ y z) (nQ x z):=by rw[qN,qN,qN];exact xP (Gj _ _ _) (cmpL_on3 _ _ _)
def RB(c:Va->Va->Int)(x y:Va):qg c x y=tu (c x y) (eO c x.args y.args):=by rw[FB];rfl
def Ck(c:Va->Va->Int)(x y:Va)(xs ys:ao):eO c (x::xs) (y::ys)=tu (qg c x y) (eO c xs ys):=by rw[eO];rfl
mutual
def ordV_all:∀(x y z:Va),Sgn (qg nQ x y)/\qg nQ y x = -qg nQ x y/\EG (qg nQ x y) (qg nQ y z) (qg nQ x z)
 | .mk k n a s b g f,y,z=>by have⟨c,d,e⟩:=ordVs_all b y.args z.args;simp only[RB];exact⟨uA (Q8 _ _) c,by rw[tO,<-Q6];exact congrArg (tu _) d,xP (Q7 _ _ _) e⟩
def ordVs_all:∀(xs ys zs:ao),Sgn (eO nQ xs ys)/\eO nQ ys xs = -eO nQ xs ys/\EG (eO nQ xs ys) (eO nQ ys zs) (eO nQ xs zs)
 | [],[],[]=>by simp[Sgn,EG,eO]
 | [],[],_::_=>by simp[Sgn,EG,eO]
 | [],_::_,[]=>by simp[Sgn,EG,eO]
 | [],_::_,_::_=>by simp[Sgn,EG,eO]
 | _::_,[],_=>by refine⟨.inr (.inr (by rw[eO])),by rw[eO,eO],λh=>?_⟩;rw[eO]at h;omega
 | x::xs,y::ys,[]=>by have⟨a,b,_⟩:=ordV_all x y y;have⟨c,d,_⟩:=ordVs_all xs ys [];simp only[Ck];refine⟨uA a c,by rw[tO,b,d],λ_ h=>?_⟩;rw[eO]at h;omega
 | x::xs,y::ys,z::zs=>by have⟨a,b,e⟩:=ordV_all x y z;have⟨c,d,f⟩:=ordVs_all xs ys zs;simp only[Ck];exact⟨uA a c,by rw[tO,b,d],xP e f⟩
end
def Hq(x y:Va):Sgn (gT x y):=(ordV_all x y y).1
def Q9(x y:Va):gT y x = -gT x y:=(ordV_all x y y).2.1
def Ho(x y z:Va):EG (gT x y) (gT y z) (gT x z):=(ordV_all x y z).2.2
def jU{d:Nat}{T:Ty}(h:j5 d T):(T.args.length:Int)=bT T.t/\∀y∈T.args,j5 (d+1) y:=by have⟨t,args⟩:=T;simp only[j5,qv,jt]at h;refine⟨h.1.2.2,λy a=>?_⟩;have:=h.2;rw[jT,ki]at this;exact this y a
def Bo{T:Ty}{x:Va}(c:hasV x T):eX T x/\∃ts,bS T x=some ts/\hasVs x.args ts:=by
 cases x with
 | mk k n a s args types code =>
  rw[hasV]at c;simp only[qv]at c;have⟨⟨e,b⟩,_⟩:=c;refine⟨e,?_⟩
  cases d:bS T (.mk k n a s args types code)with
  | none=>rw[d]at b;cases b
  | some ts=>rw[d]at b;exact⟨ts,rfl,b⟩
def aaA(n:Int):bQ 15 n=(gN n&&decide (n≠0)):=by unfold bQ;simp
def zG{P:Program}(w:cg)(t m ty e:TypeId)(k p:IntKind)(z:cm)(a b:Nat)(c:(P.info? e).map (λi=>(i.zero,i.size,i.bytes))=some (some z,a,b))(v:P.underlying t=some (.slice e))(h:P.underlying m=some (.int p))
 (n:Nat) (h0:0<n) (hs:0<a) (hzs:z.cells.size=a) (hn:n<=1000000000) (hb:b<=1000) :
 ∃g cap w',(Builtin.append_ #[t,m] ty #[.n0,.int k n]).run P w =.ok (.o g n cap) w'/\w'.ownsRow w.heap.size e a (.o g 0 cap) 0 []/\cq w w' none/\n<=cap/\cap<=9223372036854775807:=by
 have⟨o,r,j,x,l⟩:=jg1 c;have q:n*o.bytes<=1000000000*1000:=by rw[l];exact Nat.mul_le_mul hn hb
 have u:=Lib.run_append_nil_zeros w t m ty e o z k p v h r j n h0 od od od;have f:=grownCap_ge w n 0 e;have d:grownCap w n 0 e<=maxLen:=grownCap_le_maxLen w n 0 e XS;refine⟨_,_,_,u,⟨oe,.inr ⟨w.heap.size,_,_,rfl,jn _,xF w.drew _,yb _,d,?_,oe⟩⟩,⟨rfl,rfl,rfl,oe,λk s _=>ka4 w.drew _ s⟩,f,by unfold maxLen at d;omega⟩;simp only[Array.size_append,size_zeroCells,hzs,<-qf7]
 congr 1
 omega
def Qx:(prog.info? 29).map (λi=>(i.zero,i.size,i.bytes))=some (some (.agg #[.i 0,.i 0,.i 0,.string ⟨#[]⟩,.n0,.n0,.n0]),7,112):=oA
def dw.base{ok:br}{w:cg}{ts:aw}{a:bj}{V:bt}(h:dw ok w ts a V)(c:0<ts.length):∃b o,a=some ⟨b,o,none⟩:=by have⟨b,o,e,_⟩:=h.2.1 0 c;exact⟨b,o,e⟩
def addr_add(b o j:Nat):(⟨b,o,none⟩:Addr).add j=⟨b,o+j,none⟩:=by
 unfold Addr.add
 by_cases h:j=0
 .subst h;rfl
 .rw[if_neg h]
def gZ.grow{w w':cg}{xv:cm}{m:Nat}{a:bo}(h:gZ w xv m a)(e:cq w w' none):gZ w' xv m a:=by
 rcases h with h|⟨d,c,rfl,h⟩
 .exact .inl h
 .refine .inr ⟨d,c,rfl,λj u f=>?_⟩;have b:=h j u f;exact (kd (e.block _ (qc0 w _ b) oe)).trans b
def lS (k n:Int) (s:bp):Bool:=decide (k=2/\n=0/\s.size=0)
mutual
def primB:Tr->Bool
 | .nd k n _ s args=>lS k n s&&primBs args
def primBs:aE->Bool
 | []=>true
 | t::ts=>primB t&&primBs ts
end
mutual
def kreadT:Tr->Ty
 | .nd _ _ p _ args=>.nd p (kreadTs args)
def kreadTs:aE->aw
 | []=>[]
 | t::ts=>kreadT t::kreadTs ts
end
def Kg(l:aE):kreadTs l=l.map kreadT:=by
 induction l with
 | nil=>rfl
 | cons t b a=>simp[kreadTs,a]
def oW (m:Nat) (t:Tr):Bool:=primB t&&decide (m+t.size<=300)
def fu (t:Tr):Bool:=oW 0 t&&au (kreadT t)
end Go.Proofs.YtnamdihclpbdfabGreat
namespace Go.Proofs.YtnamdihclpbdfabGreat.Lf
set_option linter.all false
open Go.Proofs.Tryz
set_option maxRecDepth 100000
set_option maxHeartbeats 4000000
open Go.ChangeShapes Go.WideShapes Go.ChangeAt Go.RowKit
def rP (k:Int):Bool:=decide (0<=k/\k<=3)
def gD (k:Int):Bool:=decide (1<=k/\k<=15\/20<=k/\k<=28\/40<=k/\k<=95)
def qM (k n p:Int) (s:bp) (l:Nat):Bool :=
 if k=0 then decide (p≠0\/s.size≠0\/l≠0)else if k=1 then decide (n≠0\/p≠0\/l≠0)else if k=2 then decide (n≠0\/s.size≠0)else decide (n≠0\/p≠0\/s.size≠0)
def fD (k n p:Int) (s:bp) (l:Nat):Int :=
 if rP k=false then 3 else if k=2/\gD p=false then 3 else if qM k n p s l then 1
 else if n < -1152921504606846976\/1152921504606846976<n then 2 else if 200<s.size then 4 else 0
def JH(k:Int)(w:cg) :
 Calls prog 173 #[.i k] w λe w'=>e =.returned (.bool (rP k))/\w'=w:=by
 go_enter func173,ntmps173
 go_wp2
 all_goals
  go_ret;exact kZ (by simp[rP];try omega) rfl
def rQ(k:Int)(w:cg) :
 Calls prog 174 #[.i k] w λe w'=>e =.returned (.bool (gD k))/\w'=w:=by
 go_enter func174,ntmps174
 go_wp2
 all_goals
  go_ret;refine kZ ?_ rfl;rw[jd0];simp[gD]
  try omega
def GH(k n p:Int)(s:bp)(a:bj)(l c:Nat)(w:cg)(d:l<=maxLen) :
 Calls prog 175 #[.agg #[.i k,.i n,.i p,.string s,.slice a l c]] w λe w'=>e =.returned (.bool (qM k n p s l))/\cq w w' none:=by
 unfold maxLen at d;have b:Hid (s.toList=[] ↔ s.size=0):=Au s;go_enter func175,ntmps175
 go_wp2
 all_goals
  go_ret;refine kZ ?_ (gb _);have f:=b.out;clear b;rw[jd0];simp_all [qM]
  try omega
def OO(k n p:Int)(s:bp)(a:bj)(l c:Nat)(w:cg)(d:l<=maxLen)(f:s.size<=maxLen) :
 Calls prog 154 #[.agg #[.i k,.i n,.i p,.string s,.slice a l c]] w λe w'=>e =.returned (.i (fD k n p s l))/\cq w w' none:=by
 unfold maxLen at f;go_enter func154,ntmps154;go_wp2_with (first
  | (go_at_call 173;refine (JH _ _).mono ?_;rintro e w' ⟨rfl,rfl⟩)
  | (go_at_call 174;refine (rQ _ _).mono ?_;rintro e w' ⟨rfl,rfl⟩)
  | (go_at_call 175;refine (GH _ _ _ _ _ _ _ _ d).mono ?_;rintro e w' ⟨rfl,b⟩;have g:=Qr b;have h:w.heap.size<w'.heap.size:=(by have:=b.size;simp at this;omega)))
 all_goals
  go_ret;refine lX ?_ (by first|exact gb _|exact Zt (gb _) OK);unfold fD;simp_all<;>omega
end Go.Proofs.YtnamdihclpbdfabGreat.Lf
namespace Go.Proofs.YtnamdihclpbdfabGreat
set_option linter.all false
open Go.Proofs.Tryz
set_option maxRecDepth 100000
set_option maxHeartbeats 4000000
open Go.ChangeShapes Go.WideShapes Go.ChangeAt Go.RowKit
variable {a:Act}{ops:Array Oper}{Q:Exit->Act->cg->Prop}{l:bw}{B:Nat}{o:Oper}{v:cm}{w:cg}
mutual
def bC (d:Nat):Tr->Int
 | .nd k n p s args=>if 24<d then 4 else if Lf.fD k n p s args.length≠0 then Lf.fD k n p s args.length else bG (d+1) args
def bG (d:Nat):aE->Int
 | []=>0
 | t::ts=>if bC d t≠0 then bC d t else bG d ts
end
def dS (t:Tr):Int:=if bC 1 t≠0 then bC 1 t else if 300<t.size then 4 else 0
open Go.RowKit
def wNq(n:Nat)(h:n<9223372036854775808):IntKind.i64.wrap (n:Int)=(n:Int):=by have e:(n:Int) % 2 ^ 64=n:=Int.emod_eq_of_lt od od;simp only[IntKind.wrap,IntKind.bits,IntKind.signed,e];rw[if_neg];simp;omega
def ofInt64(a:Nat)(h:a<9223372036854775808):(BitVec.ofInt 64 (a:Int)).toNat=a:=by rw[BitVec.ofInt_natCast,BitVec.toNat_ofNat];exact jd2 od
def tQ(a b:Nat)(c:a<9223372036854775808)(hb:b<9223372036854775808):bits .and .i64 (a:Int) (b:Int)=((a &&& b:Nat):Int):=by have d:a &&& b<2 ^ 63:=Nat.and_lt_two_pow _ od;show IntKind.i64.wrap ((BitVec.ofInt 64 (a:Int) &&& BitVec.ofInt 64 (b:Int)).toNat:Int)=_;rw[BitVec.toNat_and,ofInt64 a c,ofInt64 b hb];exact wNq _ od
def oO(a b:Nat)(c:a<9223372036854775808)(hb:b<9223372036854775808):bits .or .i64 (a:Int) (b:Int)=((a ||| b:Nat):Int):=by have d:a ||| b<2 ^ 63:=Nat.or_lt_two_pow od od;show IntKind.i64.wrap ((BitVec.ofInt 64 (a:Int) ||| BitVec.ofInt 64 (b:Int)).toNat:Int)=_;rw[BitVec.toNat_or,ofInt64 a c,ofInt64 b hb];exact wNq _ od
def Le(a:Nat)(h:a<9223372036854775808):bits .and .i64 (a:Int) 63=((a % 64:Nat):Int):=by have:=tQ a 63 h od;rw[show a &&& 63=a % 64 from jg6 a 6]at this;exact this
def Jc(a:Nat)(h:a<9223372036854775808):bits .and .i64 (a:Int) 127=((a % 128:Nat):Int):=by have:=tQ a 127 h od;rw[show a &&& 127=a % 128 from jg6 a 7]at this;exact this
def VZ(a:Nat)(h:a<256):bits .and .i64 (a:Int) 64=((a / 64 % 2*64:Nat):Int):=by
 have:=tQ a 64 od od;rw[show a &&& 64=a / 64 % 2*64 from by
  have : ∀x:Fin 256,x.val &&& 64=x.val / 64 % 2*64:=Xs
  exact this ⟨a,h⟩]at this
 exact this
def ZH(a:Nat)(h:a<64):bits .or .i64 0 (a:Int)=(a:Int):=by have:=oO 0 a od od;rw[Nat.zero_or]at this;exact this
def Zh(a:Nat)(h:a<64):bits .or .i64 64 (a:Int)=((64+a:Nat):Int):=by have:=oO 64 a od od;rw[<-Nat.two_pow_add_eq_or_of_lt (i:=6) h 1]at this;exact this
def Yz(a:Nat)(h:a<128):bits .or .i64 (a:Int) 128=((128+a:Nat):Int):=by have:=oO a 128 od od;rw[Nat.or_comm,<-Nat.two_pow_add_eq_or_of_lt (i:=7) h 1]at this;exact this
def wD (last m:Nat):bw:=if m=0 then [last.toUInt8]else (128+last).toUInt8::wD (m % 128) (m / 128)
 termination_by m
 decreasing_by omega
def pE (n:Int):bw:=wD ((if n<0 then 64 else 0)+n.natAbs % 64) (n.natAbs / 64)
def Bd(m:Nat):∀last,1<=(wD last m).length/\(∀k,m<128 ^ k->(wD last m).length<=k+1):=by
 induction m using Nat.strongRecOn with
 | _ m b =>
  intro last;rw[wD]
  by_cases h:m=0
  .simp[h]
  .rw[if_neg h];refine⟨oe,λk a=>?_⟩
   cases k with
   | zero=>simp at a;omega
   | succ k =>
    have:=(b (m / 128) od (m % 128)).2 k (by rw[Nat.pow_succ]at a;omega);simp;omega
def xx(n:Int)(h:bD n):1<=(pE n).length/\(pE n).length<=10:=by have⟨a,b⟩:=h;have:=Bd (n.natAbs / 64) ((if n<0 then 64 else 0)+n.natAbs % 64);exact⟨this.1,this.2 9 (by show _<9223372036854775808;omega)⟩
def info5:(prog.info? 5).map (λi=>(i.zero,i.size,i.bytes))=some (some (.int .u8 0),1,1):=oA
def cs (l:bw):bo:=l.map λb=>Value.int .u8 b.toNat
def Nb(l:bw):(cs l).length=l.length:=by simp[cs]
def Dj(a b:bw):cs (a++b)=cs a++cs b:=by simp[cs]
def om (B:Nat) (w:cg) (v:cm) (l:bw):Prop:=w.ownsRow B 5 1 v l.length (cs l)
def om.drew(h:om B w v l):om B w.drew v l:=h
def Gr.below{a:cg}{e:cm}(h:Gr w v a e)(d:om B w v l)(b:B<=w.heap.size):Below B w a :=
 (Below.refl B w).grown h.1 b (λk c=>(qb5 d k c).1)
def app1{rest:List Oper}(B:Nat)(pre:bw)(b:UInt8)(z:Int)(c:cg)(v:cm)(f:o.guard=none)(s x:Operand)
 (ho:o.op =.call { callee:=.builtin .append,args:=#[s,x],argTypes:=#[283,283] }) (hs:a.eval s=v) {H:Nat} (hx:a.eval x =.o H 1 1) (hH:c.heap.size=H)
 (hz:z=b.toNat) (hown:om B c v pre) (hB:B<=c.heap.size) (hlen:pre.length<=10000000)
 (h:∀v' w',om B w' v' (pre++[b])->Gr c v w' v'->wpList prog ops Q rest (a.put o.dst v') w'):wpList prog ops Q (o::rest) a (c.alloc (.cells #[.int .u8 z] 5)):=by
 have⟨t,r,i,k,l⟩:=jg1 info5;subst hz;subst hH;refine wpList_append_lies _ f s x 283 ho B 5 t (.int .u8 0) 1 1 underlying283 r i k l rfl ov v pre.length (cs pre) hs (qg4 hown _) ⟨c.heap.size,0,none⟩ 1 1 [.int .u8 b.toNat] hx rfl ?_ ?_ ov ?_ ?_ ?_ _ rfl ?_
 .intro j u e
  match j,e with
  | 0,e=>simp at e;subst e;simp[Addr.add]
 .intro u m;simp at m;subst m;rfl
 .unfold maxLen;omega
 .omega
 .simp;omega
 .intro g n w' p q d _;refine h _ w' ?_ ?_
  .unfold om;rw[Dj,ju];exact p
  .refine Gr.trans (Gr.alloc (Gr.refl c v) _) ⟨q,?_⟩;rcases d with d|d
   .exact .inl d.symm
   .exact .inr ⟨g,rfl,od⟩
def Xa(s:bp):Lib.strCells s=cs s.data.toList:=rfl
def Cf(B:Nat)(ty:TypeId)(v:cm)(pre:bw)(s:bp)(w:cg)(b:om B w v pre)(G:0<pre.length)(q:pre.length+s.size<=10000000)(y:B<=w.heap.size) :
 ∃v' w',(Builtin.append_ #[283,9] ty #[v,.string s]).run prog w =.ok v' w'/\om B w' v' (pre++s.data.toList)/\Gr w v w' v':=by
 have⟨p,l,f,e,h⟩:=jg1 info5;have⟨v',w',n,t,x,_⟩:=Lib.run_append_own_string (P:=prog) w B 283 9 ty 5 p underlying283 underlying9 l f e h v pre.length (cs pre) b s XS od y;refine⟨v',w',n,?_,x,?_⟩
 .unfold om;rw[Dj,ju,<-Xa];exact t
 .have m:=b;unfold om at m;rcases m.2 with⟨rfl,F⟩|⟨g,c,i,rfl,z,D,E,A,C,o⟩
  .omega
  .by_cases d:pre.length+s.size<=c
   .have a:=Lib.run_append_room_string (P:=prog) w 283 9 ty 5 p underlying283 underlying9 l e g pre.length c i D s d od;rw[n]at a;injection a with k r;subst k;exact .inl rfl
   .have holds:∀j u,(cs pre)[j]?=some u->w.cell? ((⟨g,0,none⟩:Addr).add j)=some u:=qd4 m (g:=g) rfl;have a:=Lib.run_append_grow_string (P:=prog) w 283 9 ty 5 p (.int .u8 0) underlying283 underlying9 l f ⟨g,0,none⟩ pre.length c (cs pre) (by rw[e,Nb,Nat.mul_one]) holds s od od (by rw[h];exact growslice_fits od od);rw[n]at a;injection a with k r;subst k;exact .inr ⟨_,rfl,jn _⟩
def Ai{K:Act->cg->Prop}{E:Prop}(B:Nat)(pre:bw)(s:bp)(w:cg)(v:cm)(b:o.guard=none)(c x:Operand)
 (ho:o.op =.call { callee:=.builtin .append,args:=#[c,x],argTypes:=#[283,9] }) (hs:a.eval c=v) (hx:a.eval x =.string s)
 (hown:om B w v pre) (hp:0<pre.length) (hlen:pre.length+s.size<=10000000) (hB:B<=w.heap.size)
 (h:∀v' w',om B w' v' (pre++s.data.toList)->Gr w v w' v'->K (a.put o.dst v') w') :
 if Region.wanted o (yielded ops a.tmps)then Oper.wp prog o a w K Q else E:=by
 have g:Region.wanted o (yielded ops a.tmps):=by simp[Region.wanted,b]
 rw[if_pos g];have⟨v',w',f,d,e⟩:=Cf B o.type v pre s w hown hp hlen hB;unfold Oper.wp execOp;simp only[ho,resolve,invoke,builtin,qc1,je3,Result.andThen_ok,List.map_toArray,qb2,qg6,hs,hx,f];exact h v' w' d e
def qf(B:Nat)(n:Int)(hn:bD n)(O:-9223372036854775808<n)(v:cm)(xs:bw)(w:cg)(f:om B w v xs)(V:B<=w.heap.size)(J:xs.length<=1000000) :
 Calls prog 256 #[v,.i n] w λe w'=>∃v',e =.returned v'/\om B w' v' (xs++pE n)/\Gr w v w' v':=by
 have⟨S,T⟩:=hn;have⟨i0,X,P,Q,R⟩:=jg1 info5;have C:∃a m:Nat,a<128/\m<9223372036854775808/\pE n=wD a m/\(n<0->bits .or .i64 64 (bits .and .i64 (-n) 63)=(a:Int) /\ -n / 64=(m:Int))/\(¬n<0->bits .or .i64 0 (bits .and .i64 n 63)=(a:Int)/\n / 64=(m:Int)):=by
  refine⟨_,_,?_,?_,rfl,λh=>?_,λh=>?_⟩
  .split<;>omega
  .omega
  .have e:-n=(n.natAbs:Int):=by omega
   rw[e,Le _ od,Zh _ od,if_pos h];exact⟨rfl,od⟩
  .have e:n=(n.natAbs:Int):=by omega
   rw[e,Le _ od,ZH _ od,oa];exact⟨oe,od⟩
 have⟨c,D,M,N,I,r,q⟩:=C;have E:=jh I;clear I;have L:=xx n ⟨S,T⟩;rw[E.out]at L|-;rcases (show (n<0/\bits .or .i64 64 (bits .and .i64 (-n) 63)=(c:Int) /\ -n / 64=(D:Int))\/(0<=n/\bits .or .i64 0 (bits .and .i64 n 63)=(c:Int)/\n / 64=(D:Int)) from by
  by_cases h:n<0
  .exact .inl ⟨h,r h⟩
  .exact .inr ⟨od,q h⟩)with⟨s,G,H⟩|⟨s,G,H⟩
 all_goals
  clear r q;go_enter func256,ntmps256;go_wp2_with fail;clear G H E;go_loopw [0,6,1] (λK l n wr=>∃(d:bw) (a m:Nat),a<128/\m<9223372036854775808/\l =.i a/\n =.i m/\d++wD a m=xs++wD c D/\om B wr K d/\Gr w v wr K) (λ_ _ n _=>(intOf n).toNat)
  case atStart=>exact⟨xs,_,_,M,N,rfl,rfl,rfl,f,Gr.refl _ _⟩
  case round =>
   obtain⟨d,a,m,y,A,rfl,rfl,j,b,x⟩:=hrel;have k:=congrArg List.length j;simp only[ju]at k;have Z:=x.1.size;have⟨F,HO,HB⟩:=JT j b x;clear j b x f
   by_cases o:m=0
   .have p:¬(0:Int)<(m:Int):=by omega
    have z:=(Bd m a).1;have t:((a:Nat):Int)=(a.toUInt8).toNat:=by rw[show a.toUInt8.toNat=a % 256 from rfl,jd2 od]
    have u:=jh t;clear t;go_wp2_with (at_builtin;refine app1 B d a.toUInt8 _ wr _ rfl _ _ rfl rfl rfl rfl u HO od od ?_;intro v' U b g);go_ret;refine⟨v',rfl,?_,HB.trans g⟩;have:=F.out;rw[wD,if_pos o]at this;rw[<-this];exact b
   .have p:(0:Int)<(m:Int):=by omega
    have Y:=Yz a y;have W:=Jc m A;have z:=(Bd m a).1;have t:(128+(a:Nat):Int)=((128+a).toUInt8).toNat:=by rw[show (128+a).toUInt8.toNat=(128+a) % 256 from rfl,jd2 od];rfl
    have u:=jh t;clear t;go_wp2_with (at_builtin;refine app1 B d (128+a).toUInt8 _ wr _ rfl _ _ rfl rfl rfl rfl u HO od od ?_;intro v' U b g);go_roundw
    case rel=>exact⟨d++[(128+a).toUInt8],m % 128,m / 128,od,od,by go_num,by go_num,by have:=F.out;rw[wD,if_neg o]at this;simpa using this,b,HB.trans g⟩
    case measure=>simp[intOf];omega
