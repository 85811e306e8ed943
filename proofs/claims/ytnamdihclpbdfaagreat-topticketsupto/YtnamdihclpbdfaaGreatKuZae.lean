import Derived.Test.YtnamdihclpbdfaaGreatKuZad
import Derived.Test.YtnamdihclpbdfaaGreatKuZab
namespace Go.Proofs.YtnamdihclpbdfaaGreat
set_option linter.all false
open Go.Proofs.Tryz
set_option maxRecDepth 100000
set_option maxHeartbeats 4000000
open Pe
def Tr.args0:Tr->aE
 | .nd _ _ _ _ l=>l
mutual
def tyD:Ty->bd
 | .nd t a=>[.v (.i t),.s 2 (tysD a)]
def tysD:aw->List bd
 | []=>[]
 | T::ts=>tyD T::tysD ts
end
mutual
def ndD:Tr->bd
 | .nd k n p s a=>[.v (.i k),.v (.i n),.v (.i p),.v (.string s),.s 5 (ndsD a)]
def ndsD:aE->List bd
 | []=>[]
 | T::ts=>ndD T::ndsD ts
end
def tysD_map:∀ts:aw,tysD ts=ts.map tyD
 | []=>rfl
 | T::ts=>by simp[tysD,tysD_map ts]
def ndsD_map:∀ts:aE,ndsD ts=ts.map ndD
 | []=>rfl
 | T::ts=>by simp[ndsD,ndsD_map ts]
def AA(T:Ty):(tyD T).length=2:=by cases T;rfl
def LJ(t:Tr):(ndD t).length=5:=by cases t;rfl
mutual
def okT:Ty->Prop
 | .nd t a=>bD t/\okTs a
def okTs:aw->Prop
 | []=>True
 | T::ts=>okT T/\okTs ts
end
mutual
def okN:Tr->Prop
 | .nd k n p s a=>(bD k/\bD n/\bD p/\s.size<=maxLen)/\okNs a
def okNs:aE->Prop
 | []=>True
 | T::ts=>okN T/\okNs ts
end
def okTs_at:∀{ts:aw},okTs ts ↔ ∀T∈ts,okT T
 | []=>by simp[okTs]
 | T::ts=>by simp[okTs,okTs_at (ts:=ts)]
def okNs_at:∀{ts:aE},okNs ts ↔ ∀T∈ts,okN T
 | []=>by simp[okNs]
 | T::ts=>by simp[okNs,okNs_at (ts:=ts)]
section
variable {ok:br}{w:cg}
def qI{T:Ty}{v:cm}(h:aH ok w T v):okT T/\∃a c,v=bY T.t a T.args.length c/\fI ok w (.s 2 (tysD T.args)) (.slice a T.args.length c):=by
 induction h with
 | mk V H C E A I p =>
  rename_i t args a c;refine⟨⟨E,okTs_at.2 (λT z=>?_)⟩,a,c,rfl,?_⟩
  .obtain⟨i,B,rfl⟩:=qc5 z;exact (p i B).1
  .have l:(tysD args).length=args.length:=by simp[tysD_map]
   have m:fI ok w (.s 2 (tysD args)) (.slice a (tysD args).length c):=by
    have d:∀(i:Nat) (r:bd),(tysD args)[i]?=some r->∃h:i<args.length,r=tyD args[i]:=λi r e=>by rw[tysD_map,qb0,qS]at e;obtain⟨T,k,rfl⟩:=e;obtain⟨h,rfl⟩:=qT.1 k;exact⟨h,rfl⟩
    refine .s (λi j=>((V i).cells[j]?).getD undef) od od (λi r e=>?_) (λi r j x k f=>?_) (λi r j x k f=>?_)
    .obtain⟨h,rfl⟩:=d i r e;exact AA _
    .obtain⟨h,rfl⟩:=d i r k;obtain⟨b,o,rfl,hb,F,q,J,u,n,h0,y⟩:=A i h;have G:j<2:=by have:=(qT.1 f).1;rwa [AA]at this
     refine⟨b,o,rfl,hb,?_⟩;rw[n];rcases (show j=0\/j=1 by omega)with rfl|rfl
     .exact h0
     .rw[show o+(i*2+1)=o+i*2+1 by omega];exact y
    .obtain⟨h,rfl⟩:=d i r k;have⟨_,q,u,n,g⟩:=p i h;rw[n];generalize args[i]=T at f g n;have⟨F,az⟩:=T;rcases j with _|_|j
     .simp only[tyD,kO,qq]at f;subst f;exact .v _
     .simp only[tyD,ub,kO,qq]at f;subst f;exact g
     .simp[tyD]at f
   rw[l]at m;exact m
def qV{ts:aw}{a:bj}{V:bt}{c:Nat}(h:dw ok w ts a V)(hc:ts.length<=c):okTs ts/\fI ok w (.s 2 (tysD ts)) (.slice a ts.length c):=by have:=qI (aH.of (t:=0) ⟨ot,ot⟩ h hc);have⟨b,f,g,e,d⟩:=this;simp only[Go.Proofs.YtnamdihclpbdfaaGreat.bY,Ty.t,Ty.args,ja5,jc3,qa5,ye,true_and,and_true]at e;obtain⟨rfl,rfl⟩:=e;exact⟨b.2,d⟩
def rep_rowT:∀(N:Nat) {ts:aw}{a:bj}{l c:Nat},tysizes ts<=N->okTs ts->fI ok w (.s 2 (tysD ts)) (.slice a l c)->l=ts.length/\ts.length<=c/\∃V,dw ok w ts a V:=λN=>by
 induction N with
 | zero =>
  intro ts a l c E m h;have⟨F,G,U,e,D,I,J,p⟩:=fH h;have n:ts=[]:=by
   cases ts with
   | nil=>rfl
   | cons T ts=>have:=Cz T;simp only[tysizes]at E;omega
  subst n;simp only[ye]at e;obtain⟨rfl,rfl,rfl⟩:=e;exact⟨rfl,D,λ_=>.i 0,dw.nil _ _ _ _⟩
 | succ N M =>
  intro ts a l c E m h;have⟨F,G,U,e,D,I,J,p⟩:=fH h;have k:(tysD ts).length=ts.length:=by simp[tysD_map]
  simp only[ye]at e;obtain⟨rfl,rfl,rfl⟩:=e;have j:∀(i:Nat) (d:i<ts.length),(tysD ts)[i]?=some (tyD ts[i]):=λi d=>by rw[tysD_map,qb0,qu d];rfl
  have g:∀(i:Nat) (d:i<ts.length),∃v,rC ok w a i v/\aH ok w ts[i] v:=λi d=>by
   have u:ts[i]∈ts:=yy d;have n:=jS u;have f:=okTs_at.1 m _ u;have q:=j i d;generalize ts[i]=T at u n f q;have⟨t,az⟩:=T;obtain⟨⟨b,o,rfl,hb,A⟩,O⟩:=p i _ 0 _ q rfl;have⟨⟨P,R,e,_,B⟩,y⟩:=p i _ 1 _ q rfl;simp only[qq,jb2,and_true]at e;obtain⟨rfl,rfl⟩:=e;have⟨z,C,_,H,_⟩:=fH y;rw[H]at y B;rw[bW O]at A;have x:tysizes az<=N:=by simp only[Ty.size]at n;omega
   have⟨Q,L,V,K⟩:=M x f.2 y;have r:(tysD az).length=az.length:=by simp[tysD_map]
   refine⟨bY t z az.length C,⟨b,o,rfl,hb,t,z,az.length,C,rfl,A,?_⟩,aH.of f.1 K L⟩;rw[<-r,qg2];exact B
  refine⟨k,od,λi=>if d:i<ts.length then (g i d).choose else undef,od,λi d=>?_,λi d=>?_⟩
  .simp only[d,dite_true];exact (g i d).choose_spec.1
  .simp only[d,dite_true];exact (g i d).choose_spec.2
def qL{T:Tr}{v:cm}(h:bI ok w T v):okN T/\∃k n p s a c,T =.nd k n p s T.args0/\v=af k n p s a T.args0.length c/\fI ok w (.s 5 (ndsD T.args0)) (.slice a T.args0.length c):=by
 induction h with
 | mk V R I K J L G S y =>
  rename_i k n p s args a c hk;refine⟨⟨⟨K,J,L,I⟩,okNs_at.2 (λT m=>?_)⟩,k,n,p,s,a,c,rfl,rfl,?_⟩
  .obtain⟨i,H,rfl⟩:=qc5 m;exact (y i H).1
  .have q:(ndsD args).length=args.length:=by simp[ndsD_map]
   have t:fI ok w (.s 5 (ndsD args)) (.slice a (ndsD args).length c):=by
    have f:∀(i:Nat) (r:bd),(ndsD args)[i]?=some r->∃h:i<args.length,r=ndD args[i]:=λi r e=>by rw[ndsD_map,qb0,qS]at e;obtain⟨T,l,rfl⟩:=e;obtain⟨h,rfl⟩:=qT.1 l;exact⟨h,rfl⟩
    refine .s (λi j=>((V i).cells[j]?).getD undef) od od (λi r e=>?_) (λi r j x l d=>?_) (λi r j x l d=>?_)
    .obtain⟨h,rfl⟩:=f i r e;exact LJ _
    .obtain⟨h,rfl⟩:=f i r l;obtain⟨b,o,rfl,hb,M,N,O,P,z,W,A,u,h0,B,C,E,F⟩:=G i h;have Q:j<5:=by have:=(qT.1 d).1;rwa [LJ]at this
     refine⟨b,o,rfl,hb,?_⟩;rw[u];rw[<-qg2];rcases (show j=0\/j=1\/j=2\/j=3\/j=4 by omega)with rfl|rfl|rfl|rfl|rfl
     .exact h0
     .exact B
     .exact C
     .exact E
     .exact F
    .obtain⟨h,rfl⟩:=f i r l;have⟨_,M,N,O,P,z,A,m,u,g⟩:=y i h;rw[u];generalize args[i]=T at d g u m;have⟨U,X,p2,Y,az⟩:=T;simp only[Tr.nd.injEq]at m;obtain⟨rfl,rfl,rfl,rfl,_⟩:=m;rcases j with _|_|_|_|_|j
     .simp only[ndD,kO,qq]at d;subst d;exact .v _
     .simp only[ndD,ub,kO,qq]at d;subst d;exact .v _
     .simp only[ndD,ub,kO,qq]at d;subst d;exact .v _
     .simp only[ndD,ub,kO,qq]at d;subst d;exact .v _
     .simp only[ndD,ub,kO,qq]at d;subst d;exact g
     .simp[ndD]at d
   rw[q]at t;exact t
def rep_rowN:∀(N:Nat) {ts:aE}{a:bj}{l c:Nat},sizes ts<=N->okNs ts->fI ok w (.s 5 (ndsD ts)) (.slice a l c)->l=ts.length/\ts.length<=c/\∃V,cK ok w ts a V:=λN=>by
 induction N with
 | zero =>
  intro ts a l c O t h;have⟨Q,R,U,e,M,S,W,j⟩:=fH h;have y:ts=[]:=by
   cases ts with
   | nil=>rfl
   | cons T ts=>have:=size_pos T;simp only[sizes]at O;omega
  subst y;simp only[ye]at e;obtain⟨rfl,rfl,rfl⟩:=e;exact⟨rfl,M,λ_=>.i 0,cK.nil _ _ _ _⟩
 | succ N Y =>
  intro ts a l c O t h;have⟨Q,R,U,e,M,S,W,j⟩:=fH h;have r:(ndsD ts).length=ts.length:=by simp[ndsD_map]
  simp only[ye]at e;obtain⟨rfl,rfl,rfl⟩:=e;have q:∀(i:Nat) (d:i<ts.length),(ndsD ts)[i]?=some (ndD ts[i]):=λi d=>by rw[ndsD_map,qb0,qu d];rfl
  have g:∀(i:Nat) (d:i<ts.length),∃v,ky ok w a i v/\bI ok w ts[i] v:=λi d=>by
   have P:ts[i]∈ts:=yy d;have y:(ts[i]).size<=sizes ts:=by have:=gH ts i d;have:=jF ts (i+1);omega
   have f:=okNs_at.1 t _ P;have m:=q i d;generalize ts[i]=T at P y f m;have⟨k,n,p,s,az⟩:=T;obtain⟨⟨b,o,rfl,hb,z⟩,Z⟩:=j i _ 0 _ m rfl;have⟨⟨b1,o1,J,_,A⟩,r1⟩:=j i _ 1 _ m rfl;have⟨⟨b2,o2,x,_,B⟩,r2⟩:=j i _ 2 _ m rfl;have⟨⟨b3,o3,K,_,C⟩,r3⟩:=j i _ 3 _ m rfl;have⟨⟨b4,o4,L,_,u⟩,G⟩:=j i _ 4 _ m rfl;simp only[qq,jb2,and_true]at J x K L;obtain⟨rfl,rfl⟩:=J;obtain⟨rfl,rfl⟩:=x;obtain⟨rfl,rfl⟩:=K;obtain⟨rfl,rfl⟩:=L;have⟨H,I,_,x,_⟩:=fH G;rw[x]at G u;rw[bW Z]at z;rw[bW r1]at A;rw[bW r2]at B;rw[bW r3]at C;have F:sizes az<=N:=by simp only[Tr.size]at y;omega
   have⟨hl,X,V,D⟩:=Y F f.2 G;have E:(ndsD az).length=az.length:=by simp[ndsD_map]
   rw[E]at u;simp only[<-qg2]at z A B C u;exact⟨af k n p s H az.length I,⟨b,o,rfl,hb,k,n,p,s,H,az.length,I,rfl,z,A,B,C,u⟩,bI.mk (hk:=X) V D.1 f.1.2.2.2 f.1.1 f.1.2.1 f.1.2.2.1 D.2.1 D.2.2⟩
  refine⟨r,od,λi=>if d:i<ts.length then (g i d).choose else undef,od,λi d=>?_,λi d=>?_⟩
  .simp only[d,dite_true];exact (g i d).choose_spec.1
  .simp only[d,dite_true];exact (g i d).choose_spec.2
end
def dZ (ts:aw):A1:=.one (.d (.s 2 (tysD ts)))
def tyA:Ty->A1
 | .nd t a=>.agg [.d (.v (.i t)),.d (.s 2 (tysD a))]
def CW (ts:aE):A1:=.one (.d (.s 5 (ndsD ts)))
def ndA:Tr->A1
 | .nd k n p s a=>.agg [.d (.v (.i k)),.d (.v (.i n)),.d (.v (.i p)),.d (.v (.string s)),.d (.s 5 (ndsD a))]
def iA (n:Int):A1:=.one (.d (.v (.i n)))
def bA (b:Bool):A1:=.one (.d (.v (.bool b)))
def nilA:A1:=.one (.d (.s 0 []))
abbrev Hd (s:Sp):Prop:=Holds prog s
abbrev HL:=List { s:Sp // Hd s }
def mixed:prog.follows .mixedOrders:=oA
def asked:Option (AV×List Sp×Obl)->Option (AV×List Sp×List Prop×List Prop)
 | some (v,C,ob)=>some (v,C,(ob.filter λp=>!p.1).map (·.2),(ob.filter λp=>p.1).map (·.2))
 | none=>none
def afa[pq](d:Mv)(fr:Fr)(g:fr.b->d.p=none){f:FuncId}{fn:Func}(t:prog.funcs[f]?=some fn)(T:Hints)(L:List Lp)(q:∀l∈L,vO prog fn.ntmps l)(i:List { s:Sp // Holds prog s }){args:List A1}{res:AV}{ob:List Prop}
 (h:asked (Wd d.p fr.b prog fn (fn.body.getD .skip) T L (i.map (·.1)) args)=some (res,[],(i.map (·.1)).map (λs=>s.need=s.need),ob)) (hob:∀p∈ob,p)
 (hb:fn.body.isSome:=by kernel_rfl) (hn:(fn.name == "runtime.NumGoroutine")=false:=by kernel_rfl) (hrb:∀k,pq.h0 k=none:=by exact λ_=>rfl):Holds prog (@Sp.mk f args res d fr bl0):=by
 have⟨c,j⟩:=qf4.1 hb;rw[j]at h;unfold asked at h;split at h<;>try (cases h;done)
 rename_i v C a r;simp only[qq,ju]at h;obtain⟨rfl,rfl,n,o⟩:=h;refine holds mixed t j hn d fr g T L _ (λs u=>by obtain⟨x,_,rfl⟩:=kB.1 u;exact x.2) q r (λp m=>?_) hrb
 cases hb:p.1 with
 | false =>
  have : p.2∈(a.filter λp=>!p.1).map (·.2):=kB.2 ⟨p,jb4.2 ⟨m,by simp[hb]⟩,rfl⟩;rw[n]at this;have⟨s,_,e⟩:=kB.1 this;exact e ▸ trivial
 | true =>
  have : p.2∈(a.filter λp=>p.1).map (·.2):=kB.2 ⟨p,jb4.2 ⟨m,hb⟩,rfl⟩;rw[o]at this;exact hob _ this
def YJ[pq](c:Mv){f:FuncId}{a:Func}(e:prog.funcs[f]?=some a)(T:Hints)(L:List Lp)(d:∀l∈L,vO prog a.ntmps l)(b:List { s:Sp // Holds prog s }){args:List A1}{res:AV}{ob:List Prop}
 (h:asked (Wd c.p false prog a (a.body.getD .skip) T L (b.map (·.1)) args)=some (res,[],(b.map (·.1)).map (λs=>s.need=s.need),ob)) (hob:∀p∈ob,p)
 (hb:a.body.isSome:=by kernel_rfl) (hn:(a.name == "runtime.NumGoroutine")=false:=by kernel_rfl) (hrb:∀k,pq.h0 k=none:=by exact λ_=>rfl):Holds prog (@Sp.mk f args res c fr0 bl0):=afa c fr0 (λh=>by cases h) e T L d b h hob hb hn hrb
abbrev fr1:Fr:=⟨true⟩
abbrev HdF (f:FuncId) (args:List A1) (res:AV):Prop:=Holds prog (@Sp.mk f args res mv0 fr1 bl0)
def adr{f:FuncId}{a:Func}(d:prog.funcs[f]?=some a)(T:Hints)(L:List Lp)(c:∀l∈L,vO prog a.ntmps l)(b:List { s:Sp // Holds prog s }){args:List A1}{res:AV}{ob:List Prop}
 (hob:∀p∈ob,p) (h:asked (Wd none true prog a (a.body.getD .skip) T L (b.map (·.1)) args)=some (res,[],(b.map (·.1)).map (λs=>s.need=s.need),ob):=by kernel_rfl)
 (hb:a.body.isSome:=by kernel_rfl) (hn:(a.name == "runtime.NumGoroutine")=false:=by kernel_rfl):HdF f args res:=afa mv0 fr1 (λ_=>rfl) d T L c b h hob hb hn
def Ce{f:FuncId}{a:Func}(d:prog.funcs[f]?=some a)(T:Hints)(L:List Lp)(c:∀l∈L,vO prog a.ntmps l)(b:HL){args:List A1}{res:AV}{ob:List Prop}
 (hob:∀p∈ob,p) (h:asked (evF prog a (a.body.getD .skip) T L (b.map (·.1)) args)=some (res,[],(b.map (·.1)).map (λs=>s.need=s.need),ob):=by kernel_rfl)
 (hb:a.body.isSome:=by kernel_rfl) (hn:(a.name == "runtime.NumGoroutine")=false:=by kernel_rfl):Hd ⟨f,args,res⟩:=YJ mv0 d T L c b h hob hb hn
def runT{f:FuncId}{a:Func}(c:prog.funcs[f]?=some a)(T:Hints)(b:HL){args:List A1}{res:AV}{ob:List Prop}
 (hob:∀p∈ob,p) (h:asked (evF prog a (a.body.getD .skip) T [] (b.map (·.1)) args)=some (res,[],(b.map (·.1)).map (λs=>s.need=s.need),ob):=by kernel_rfl)
 (hb:a.body.isSome:=by kernel_rfl) (hn:(a.name == "runtime.NumGoroutine")=false:=by kernel_rfl):Hd ⟨f,args,res⟩:=Ce c T [] oe b hob h hb hn
def aF{f:FuncId}{a:Func}(c:prog.funcs[f]?=some a)(b:HL){args:List A1}{res:AV}
 (h:asked (evF prog a (a.body.getD .skip) [] [] (b.map (·.1)) args)=some (res,[],(b.map (·.1)).map (λs=>s.need=s.need),[]):=by kernel_rfl)
 (hb:a.body.isSome:=by kernel_rfl) (hn:(a.name == "runtime.NumGoroutine")=false:=by kernel_rfl):Hd ⟨f,args,res⟩:=runT c [] b oe h hb hn
def LF(T:Ty):(tyA T).keys=[]:=by cases T;rfl
def yC(t:Tr):(ndA t).keys=[]:=by cases t;rfl
def Pe.Holds.conv{f:FuncId}{a:List A1}{b:AV}(h:Hd ⟨f,a,b⟩){args:List A1}{res:AV}(i:∀ok w vs,dU (gm (λ_=>none) ok w) args vs->dU (gm (λ_=>none) ok w) a vs)(j:∀ok w v,iZ (λ_=>none) ok w b v->iZ (λ_=>none) ok w res v)(nk:res.keys=[]:=by first|rfl|(simp only[AV.keys,qd5,jh1,LF,yC,qe5,qc4]<;>rfl)):Hd ⟨f,args,res⟩ :=
 ⟨⟨h.OT.1,by show res.keys.all _;rw[nk];rfl⟩,λok w vs k=>(h.runN rfl ok w vs (i ok w vs k)).mono λe l ⟨g,v,c,d⟩=>⟨g,v,c,j _ _ _ d⟩⟩
def gG{ok:br}{w:cg}{n m:Nat}{v:cm}(h:fI ok w (.s n []) v)(hm:m≠0:=by decide):fI ok w (.s m []) v:=by obtain⟨a,c,U,rfl,b,d,_⟩:=fH h;exact .s U b d oe oe oe (λh=>absurd h hm)
def bK{f:FuncId}{a:Func}(e:prog.funcs[f]?=some a)(hb:a.body.isSome:=by kernel_rfl)(hn:(a.name == "runtime.NumGoroutine")=false:=by kernel_rfl):∀(args:Array cm) (w:cg),(callFunc f args).run prog w =.ok (.enter f args) w:=λargs w=>by
 have⟨c,d⟩:=qf4.1 hb
 have b:¬a.name = "runtime.NumGoroutine":=by simpa using hn
 simp[callFunc,e,b,d,Result.andThen]
def tF{f:FuncId}{a:Func}{res:AV}(b:prog.funcs[f]?=some a)(hb:a.body.isSome:=by kernel_rfl)(hn:(a.name == "runtime.NumGoroutine")=false:=by kernel_rfl)(nk:res.keys=[]:=by first|rfl|(simp only[AV.keys,qd5,jh1,LF,yC,qe5,qc4]<;>rfl)):(∀(args:Array cm) (w:cg),(callFunc f args).run prog w =.ok (.enter f args) w)/\res.keys.all (Hp.lk {}):=⟨bK b hb hn,by rw[nk];rfl⟩
mutual
def okT_formed:∀(T:Ty) (d:Nat),bf d T->okT T
 | .nd t a,d,h=>by simp only[bf,qt,jH,jt]at h;exact⟨⟨od,od⟩,okTs_formed a (d+1) h.2⟩
def okTs_formed:∀(l:aw) (d:Nat),ig d l->okTs l
 | [],_,_=>trivial
 | T::l,d,h=>by simp only[ig,qt]at h;exact⟨okT_formed T d h.1,okTs_formed l d h.2⟩
end
def oM{T:Ty}(h:ai T):okT T:=by simp only[ai,qt]at h;exact okT_formed T 1 h.1.1
def ay{s:aw}(h:s.all ai):okTs s:=okTs_at.2 λT a=>oM (kd.1 h T a)
def jM{f:FuncId}{b:Bool}{args:List A1}(a:∀(args:Array cm) (w:cg),(callFunc f args).run prog w =.ok (.enter f args) w)(h:∀ok w vs,dU (gm (λ_=>none) ok w) args vs->Calls prog f vs.toArray w λe w'=>e =.returned (.bool b)/\cq w w' none):Hd ⟨f,args,aQ b⟩ :=
 ⟨⟨a,rfl⟩,λok w vs d=>(h ok w vs d).mono (by rintro e w' ⟨rfl,c⟩;exact⟨c,_,rfl,fI.v _⟩)⟩
def jR{ok:br}{w:cg}{ts:aw}{n:Nat}{v:cm}(hk:okTs ts)(hn:n=2\/ts=[])(h:fI ok w (.s n (tysD ts)) v):∃a c V,v =.slice a ts.length c/\ts.length<=c/\dw ok w ts a V:=by
 have h:fI ok w (.s 2 (tysD ts)) v:=by
  rcases hn with rfl|rfl
  .exact h
  .exact gG h
 have⟨a,c,U,e,_⟩:=fH h;subst e;have⟨f,d,V,b⟩:=rep_rowT _ (jj _) hk h;exact⟨a,c,V,by rw[f],d,b⟩
def oK{ok:br}{w:cg}{t:Tr}{u:cm}(b:okN t)(l:gm (λ_=>none) ok w (ndA t) u):bI ok w t u:=by
 have⟨k,n,p,s,az⟩:=t;obtain⟨q,rfl,h⟩:=l
 match q,h with
 | [r,v,x,y,z],⟨f,g,i,j,e,_⟩ =>
  obtain⟨a,c,U,rfl,_⟩:=fH e;have⟨o,m,V,d⟩:=rep_rowN _ (jj _) b.2 e;rw[bW f,bW g,bW i,bW j,o];exact bI.mk (hk:=m) V d.1 b.1.2.2.2 b.1.1 b.1.2.1 b.1.2.2.1 d.2.1 d.2.2
def uI{ok:br}{w:cg}{l:aE}{a:bj}{V:bt}{c:Nat}(h:cK ok w l a V)(hc:l.length<=c):fI ok w (.s 5 (ndsD l)) (.slice a l.length c):=by have:=qL (bI.mk (hk:=hc) (k:=0) (n:=0) (p:=0) (s:=⟨#[]⟩) V h.1 (yv _) ⟨ot,ot⟩ ⟨ot,ot⟩ ⟨ot,ot⟩ h.2.1 h.2.2);have⟨_,k,n,p,s,d,f,_,e,b⟩:=this;simp only[af,Tr.args0,ja5,jc3,qa5,ye,true_and,and_true]at e;obtain⟨_,_,_,_,rfl,rfl⟩:=e;exact b
def Fw{ok:br}{w:cg}{l:aE}{a:bj}{V:bt}(h:cK ok w l a V):okNs l:=okNs_at.2 λt c=>by obtain⟨i,b,rfl⟩:=qc5 c;exact (qL (h.2.2 i b)).1
mutual
def vaD:Va->bd
 | .mk k n a s args types code=>[.v (.i k),.v (.i n),.v (.i a),.v (.string s),.s 7 (vasD args),.s 2 (tysD types),.s 5 (ndsD code)]
def vasD:ao->List bd
 | []=>[]
 | x::xs=>vaD x::vasD xs
end
def vasD_map:∀l:ao,vasD l=l.map vaD
 | []=>rfl
 | x::l=>by simp[vasD,vasD_map l]
def Mi(x:Va):(vaD x).length=7:=by cases x;rfl
mutual
def okV:Va->Prop
 | .mk k n a s args types code=>(bD k/\bD n/\bD a/\s.size<=maxLen)/\okVs args/\okTs types/\okNs code
def okVs:ao->Prop
 | []=>True
 | x::xs=>okV x/\okVs xs
end
def okVs_at:∀{l:ao},okVs l ↔ ∀x∈l,okV x
 | []=>by simp[okVs]
 | x::l=>by simp[okVs,okVs_at (l:=l)]
section
variable {ok:br}{w:cg}
def y9{x:Va}{v:cm}(h:aA ok w x v):∃f ac ta tc na nc,v=bg x.k x.n x.a x.s f x.args.length ac ta x.types.length tc na x.code.length nc/\fI ok w (.s 7 (vasD x.args)) (.slice f x.args.length ac)/\fI ok w (.s 2 (tysD x.types)) (.slice ta x.types.length tc)/\fI ok w (.s 5 (ndsD x.code)) (.slice na x.code.length nc):=by
 induction h with
 | mk V W U hl Q hs ik iN ia O N P hr R =>
  rename_i k n a s args types code f ta na ac tc nc m;refine⟨f,ac,ta,tc,na,nc,rfl,?_,(qV O m.2).2,uI N m.1⟩;have l:(vasD args).length=args.length:=Ks
  have p:fI ok w (.s 7 (vasD args)) (.slice f (vasD args).length ac):=by
   have d:∀(i:Nat) (r:bd),(vasD args)[i]?=some r->∃h:i<args.length,r=vaD args[i]:=λi r e=>by rw[vasD_map,qb0,qS]at e;obtain⟨T,g,rfl⟩:=e;obtain⟨h,rfl⟩:=qT.1 g;exact⟨h,rfl⟩
   refine .s (λi j=>((V i).cells[j]?).getD undef) od od (λi r e=>?_) (λi r j x g c=>?_) (λi r j x g c=>?_)
   .obtain⟨h,rfl⟩:=d i r e;exact Mi _
   .obtain⟨h,rfl⟩:=d i r g;obtain⟨b,o,rfl,hb,k',n',X,s',t,G,u,A,jJ,B,y,S,z,q,h0,H,I,J,K,L,M⟩:=P i h;have hj:j<7:=by have:=(qT.1 c).1;rwa [Mi]at this
    refine⟨b,o,rfl,hb,?_⟩;rw[q];rw[<-qg2];rcases (show j=0\/j=1\/j=2\/j=3\/j=4\/j=5\/j=6 by omega)with rfl|rfl|rfl|rfl|rfl|rfl|rfl
    .exact h0
    .exact H
    .exact I
    .exact J
    .exact K
    .exact L
    .exact M
   .obtain⟨h,rfl⟩:=d i r g;have⟨t,u,A,B,y,z,q,C,E,F⟩:=R i h;rw[q];generalize args[i]=T at c q C E F;have⟨k2,n2,Y,s2,az,tz,Z⟩:=T;rcases j with _|_|_|_|_|_|_|j
    .simp only[vaD,kO,qq]at c;subst c;exact .v _
    .simp only[vaD,ub,kO,qq]at c;subst c;exact .v _
    .simp only[vaD,ub,kO,qq]at c;subst c;exact .v _
    .simp only[vaD,ub,kO,qq]at c;subst c;exact .v _
    .simp only[vaD,ub,kO,qq]at c;subst c;exact C
    .simp only[vaD,ub,kO,qq]at c;subst c;exact E
    .simp only[vaD,ub,kO,qq]at c;subst c;exact F
    .simp[vaD]at c
  rw[l]at p;exact p
def pF (x:Va):A1:=.agg [.d (.v (.i x.k)),.d (.v (.i x.n)),.d (.v (.i x.a)),.d (.v (.string x.s)),.d (.s 7 (vasD x.args)),.d (.s 2 (tysD x.types)),.d (.s 5 (ndsD x.code))]
def FJ{x:Va}{v:cm}(h:aA ok w x v):gm (λ_=>none) ok w (pF x) v:=by obtain⟨i,j,o,p,l,m,rfl,e,f,g⟩:=y9 h;have⟨k,n,a,s,c,b,d⟩:=x;exact⟨_,rfl,.v _,.v _,.v _,.v _,e,f,g,trivial⟩
def BC{x:Va}{v:cm}(h:aA ok w x v):okV x:=by
 induction h with
 | mk V n m p e f l g j a c o q k =>
  rename_i b;exact⟨⟨l,g,j,f⟩,okVs_at.2 (λT a=>by obtain⟨i,d,rfl⟩:=qc5 a;exact k i d),(qV a b.2).1,Fw c⟩
def rep_rowV:∀(N:Nat) {ts:ao}{a:bj}{l c:Nat},vsizes ts<=N->okVs ts->fI ok w (.s 7 (vasD ts)) (.slice a l c)->l=ts.length/\ts.length<=c/\∃V,aT ok w ts a V:=λN=>by
 induction N with
 | zero =>
  intro ts a l c hN u h;have⟨a',c',U,e,h1,h2,h3,f⟩:=fH h;have G:ts=[]:=by
   cases ts with
   | nil=>rfl
   | cons T ts=>have:=eP T;simp only[vsizes]at hN;omega
  subst G;simp only[ye]at e;obtain⟨rfl,rfl,rfl⟩:=e;exact⟨rfl,h1,λ_=>.i 0,yv _,λi d=>absurd d oe,λi d=>absurd d oe⟩
 | succ N ih =>
  intro ts a l c hN u h;have⟨a',c',U,e,h1,h2,h3,f⟩:=fH h;have r:(vasD ts).length=ts.length:=Ks
  simp only[ye]at e;obtain⟨rfl,rfl,rfl⟩:=e;have m:∀(i:Nat) (d:i<ts.length),(vasD ts)[i]?=some (vaD ts[i]):=λi d=>by rw[vasD_map,qb0,qu d];rfl
  have t:∀(l:ao) (x:Va),x∈l->x.size<=vsizes l:=λl=>by
   induction l with
   | nil=>intro x z;cases z
   | cons y l Z =>
    intro x z;simp only[vsizes];rcases kl.1 z with rfl|z
    .omega
    .have:=Z x z;omega
  have j:∀(i:Nat) (d:i<ts.length),∃v,AX ok w a i v/\aA ok w ts[i] v:=λi d=>by have Y:ts[i]∈ts:=yy d;have G:=t ts _ Y;have q:=okVs_at.1 u _ Y;have g:=m i d;generalize ts[i]=T at Y G q g;have⟨k,n,p,s,az,J,H⟩:=T;obtain⟨⟨b,o,rfl,hb,K⟩,r0⟩:=f i _ 0 _ g rfl;have⟨⟨b1,o1,e1,_,L⟩,r1⟩:=f i _ 1 _ g rfl;have⟨⟨b2,o2,e2,_,M⟩,r2⟩:=f i _ 2 _ g rfl;have⟨⟨b3,o3,e3,_,O⟩,r3⟩:=f i _ 3 _ g rfl;have⟨⟨b4,o4,D,_,A⟩,r4⟩:=f i _ 4 _ g rfl;have⟨⟨b5,o5,E,_,B⟩,r5⟩:=f i _ 5 _ g rfl;have⟨⟨b6,o6,F,_,C⟩,r6⟩:=f i _ 6 _ g rfl;simp only[qq,jb2,and_true]at e1 e2 e3 D E F;obtain⟨rfl,rfl⟩:=e1;obtain⟨rfl,rfl⟩:=e2;obtain⟨rfl,rfl⟩:=e3;obtain⟨rfl,rfl⟩:=D;obtain⟨rfl,rfl⟩:=E;obtain⟨rfl,rfl⟩:=F;have⟨aa,ac,_,D,_⟩:=fH r4;have⟨ta,tc,_,E,_⟩:=fH r5;have⟨na,nc,_,F,_⟩:=fH r6;rw[D]at r4 A;rw[E]at r5 B;rw[F]at r6 C;rw[bW r0]at K;rw[bW r1]at L;rw[bW r2]at M;rw[bW r3]at O;have⟨I,q2,q3,q4⟩:=q;simp only[Va.size]at G;have⟨_,S,V,P⟩:=ih od q2 r4;have⟨_,W,VT,R⟩:=rep_rowT _ (jj _) q3 r5;have⟨_,X,VN,Q⟩:=rep_rowN _ (jj _) q4 r6;rw[show (vasD az).length=az.length by simp[vasD_map]]at A;rw[show (tysD J).length=J.length by simp[tysD_map]]at B;rw[show (ndsD H).length=H.length by simp[ndsD_map]]at C;simp only[<-qg2]at K L M O A B C;exact⟨bg k n p s aa az.length ac ta J.length tc na H.length nc,⟨b,o,rfl,hb,k,n,p,s,aa,az.length,ac,ta,J.length,tc,na,H.length,nc,rfl,K,L,M,O,A,B,C⟩,aA.mk (hnk:=⟨X,W⟩) V VT VN P.1 S I.2.2.2 I.1 I.2.1 I.2.2.1 R Q P.2.1 P.2.2⟩
  refine⟨r,od,λi=>if d:i<ts.length then (j i d).choose else undef,od,λi d=>?_,λi d=>?_⟩
  .simp only[d,dite_true];exact (j i d).choose_spec.1
  .simp only[d,dite_true];exact (j i d).choose_spec.2
end
def qi (l:ao):A1:=.one (.d (.s 7 (vasD l)))
def lV{ok:br}{w:cg}{l:ao}{n:Nat}{v:cm}(hk:okVs l)(hn:n=7\/l=[])(h:fI ok w (.s n (vasD l)) v):∃a c V,v =.slice a l.length c/\l.length<=c/\aT ok w l a V:=by
 have h:fI ok w (.s 7 (vasD l)) v:=by
  rcases hn with rfl|rfl
  .exact h
  .exact gG h
 have⟨a,c,U,e,_⟩:=fH h;subst e;have⟨f,d,V,b⟩:=rep_rowV _ (jj _) hk h;exact⟨a,c,V,Ks,d,b⟩
def b64 (n:Int):Bool:=decide (-9223372036854775808<=n)&&decide (n<9223372036854775808)
def i64{n:Int}(h:b64 n:=by rfl):bD n:=by unfold b64 at h;rw[qt,jt,jt]at h;unfold bD;omega
def xU{ok:br}{w:cg}{l:aE}{n:Nat}{v:cm}(hk:okNs l)(hn:n=5\/l=[])(h:fI ok w (.s n (ndsD l)) v):∃a c V,v =.slice a l.length c/\l.length<=c/\cK ok w l a V:=by
 have h:fI ok w (.s 5 (ndsD l)) v:=by
  rcases hn with rfl|rfl
  .exact h
  .exact gG h
 have⟨a,c,U,e,_⟩:=fH h;subst e;have⟨f,d,V,b⟩:=rep_rowN _ (jj _) hk h;exact⟨a,c,V,by simp[ndsD_map],d,b⟩
def yu{ok:br}{w:cg}{l:ao}{a:bj}{c:Nat}{V:bt}(h:aT ok w l a V)(hc:l.length<=c):fI ok w (.s 7 (vasD l)) (.slice a l.length c):=by have⟨o,p,j,m,f,g,e,i,_⟩:=y9 (aA.mk (hnk:=⟨yv _,yv _⟩) (k:=0) (n:=0) (a:=0) (s:=⟨#[]⟩) (types:=[]) (code:=[]) (ta:=none) (na:=none) (nc:=0) (tc:=0) V V V h.1 hc ot i64 i64 i64 (dw.nil _ _ _ _) (cK.nil _ _ _ _) h.2.1 h.2.2);simp only[bg,ja5,jc3,qa5,ye,and_true]at e;have⟨_,_,_,_,⟨b,_,d⟩,_⟩:=e;subst b d;exact i
noncomputable def TF (post:St):Option (Nat×St×List Sp×Obl)->Option (Nat×List Sp×List Prop×List Prop×List (Option AV))
 | some (e,σ,C,ob)=>if (get σ (1000001,0)).isNone then some (e,C,(ob.filter λp=>!p.1).map (·.2),(ob.filter λp=>p.1).map (·.2),post.map λx=>EI σ x.1)else none
 | none=>none
def Ll{post:St}{r:Option (Nat×St×List Sp×Obl)}{e:Nat}{f:HL}{ob:List Prop}(h:TF post r=some (e,[],(f.map (·.1)).map (λs=>s.need=s.need),ob,post.map λx=>some x.2))(c:∀p∈ob,p) :
 ∃σ a,r=some (e,σ,[],a)/\(∀p∈a,p.2)/\(∀x∈post,EI σ x.1=some x.2)/\(get σ (1000001,0)).isNone:=by
 unfold TF at h;split at h<;>try (cases h;done)
 rename_i l σ C a;split at h<;>try (cases h;done)
 rename_i b;simp only[qq,ju]at h;obtain⟨rfl,rfl,g,i,j⟩:=h;refine⟨σ,a,rfl,λp d=>?_,λx k=>?_,b⟩
 .cases hb:p.1 with
  | false =>
   have : p.2∈(a.filter λp=>!p.1).map (·.2):=kB.2 ⟨p,jb4.2 ⟨d,by simp[hb]⟩,rfl⟩;rw[g]at this;have⟨s,_,e⟩:=kB.1 this;exact e ▸ trivial
  | true =>
   have : p.2∈(a.filter λp=>p.1).map (·.2):=kB.2 ⟨p,jb4.2 ⟨d,hb⟩,rfl⟩;rw[i]at this;exact c _ this
 .exact jg1.1 j x k
def xQ{nt:Nat}{b:Code}{pre a:St}{e:Nat}(T:Hints)(d:HL){ob:List Prop}(c:∀p∈ob,p)(h:TF a (Dt prog T [] nt b (d.map (·.1)) pre)=some (e+1,[],(d.map (·.1)).map (λs=>s.need=s.need),ob,a.map λx=>some x.2):=by kernel_rfl)(hc:closed a:=by kernel_rfl):vO prog nt ⟨b,pre,e+1,a⟩:=by have⟨σ,l,f,g,i,j⟩:=Ll h c;exact Un mixed (L:=[]) oe f (λs k=>by obtain⟨x,_,rfl⟩:=kB.1 k;exact x.2) g i hc j
def LG{nt:Nat}{a:Code}{pre b pre2:St}{ex:Nat}(T:Hints)(d:HL){ob:List Prop}(j:vO prog nt ⟨a,pre2,ex,b⟩)(c:∀p∈ob,p)(h:TF pre2 (Dt prog T [] nt a (d.map (·.1)) pre)=some (0,[],(d.map (·.1)).map (λs=>s.need=s.need),ob,pre2.map λx=>some x.2):=by kernel_rfl)(hc:closed pre2:=by kernel_rfl):vO prog nt ⟨a,pre,ex,b⟩:=by have⟨σ,l,e,f,g,i⟩:=Ll h c;exact Uo mixed (L:=[]) oe e (λs k=>by obtain⟨x,_,rfl⟩:=kB.1 k;exact x.2) f g hc i j
def acr{nt:Nat}{b:Code}{pre a:St}{e:Nat}(T:Hints)(L:List Lp)(k:∀l∈L,vO prog nt l)(d:HL){ob:List Prop}(c:∀p∈ob,p)(h:TF a (Dt prog T L nt b (d.map (·.1)) pre)=some (e+1,[],(d.map (·.1)).map (λs=>s.need=s.need),ob,a.map λx=>some x.2):=by kernel_rfl)(hc:closed a:=by kernel_rfl):vO prog nt ⟨b,pre,e+1,a⟩:=by have⟨σ,n,f,g,i,j⟩:=Ll h c;exact Un mixed k f (λs m=>by obtain⟨x,_,rfl⟩:=kB.1 m;exact x.2) g i hc j
def XQ{nt:Nat}{a:Code}{pre b pre2:St}{ex:Nat}(T:Hints)(L:List Lp)(j:∀l∈L,vO prog nt l)(d:HL){ob:List Prop}(k:vO prog nt ⟨a,pre2,ex,b⟩)(c:∀p∈ob,p)(h:TF pre2 (Dt prog T L nt a (d.map (·.1)) pre)=some (0,[],(d.map (·.1)).map (λs=>s.need=s.need),ob,pre2.map λx=>some x.2):=by kernel_rfl)(hc:closed pre2:=by kernel_rfl):vO prog nt ⟨a,pre,ex,b⟩:=by have⟨σ,n,e,f,g,i⟩:=Ll h c;exact Uo mixed j e (λs m=>by obtain⟨x,_,rfl⟩:=kB.1 m;exact x.2) f g hc i k
abbrev kC (f:Func) (i:Nat):Code:=((loopsOf (f.body.getD .skip))[i]?).getD .skip
abbrev jA (m:Nat):A1:=.one (.d (.v (.i (.ofNat m))))
def mD (x:AV) (a:A1):Prop:=some x=some (.of a)
def Bc{α:Type} : ∀(n:Nat) (l:List α),n<=l.length->xw n l=some (l.drop n)
 | 0,l,_=>rfl
 | n+1,x::l,h=>Bc n l (by simpa using h)
def Cu{α:Type} : ∀(n:Nat) (l:List α),n<=l.length->nH n l=some (l.take n)
 | 0,l,_=>rfl
 | n+1,x::l,h=>by simp[nH,Cu n l (by simpa using h)]
def eY(s:aw):(tysD s).length=s.length:=by simp[tysD_map]
def Er(s:aw)(k:Nat):(tysD s).drop k=tysD (s.drop k):=by simp[tysD_map,List.map_drop]
def Es(s:aw)(k:Nat):(tysD s).take k=tysD (s.take k):=by simp[tysD_map,List.map_take]
def is_le{a b:Int}(h:a<=b):mD (aQ (decide (a<=b))) (bA true):=by simp[mD,h,aQ,bA]
def QA{a b:Int}(h:¬a<=b):mD (aQ (decide (a<=b))) (bA false):=by simp[mD,h,aQ,bA]
def is_lt{a b:Int}(h:a<b):mD (aQ (decide (a<b))) (bA true):=by simp[mD,h,aQ,bA]
def wH{a b:Int}(h:¬a<b):mD (aQ (decide (a<b))) (bA false):=by simp[mD,h,aQ,bA]
def yY{a b:Int}(h:a=b):mD (lW a) (iA b):=by rw[h];rfl
def OQ (s:aw) (m:Nat) (t:Int) (a:aw):Prop:=Bp 2 2 (tysD s) m=some (.of (.one (.e (tyD (.nd t a)) 0)))
def EK{s:aw}{m:Nat}{t:Int}{a:aw}(h:s[m]?=some (.nd t a)):OQ s m t a:=by unfold OQ Bp;rw[tysD_map,qb0,h];rfl
def Qf{s:aw}{m:Nat}(h:m<=s.length):qA 2 (tysD s) (some 0) (some (some m))=some (.of (dZ (s.take m))):=by simp only[qA];rw[Cu _ _ (by rw[eY];exact h),Es];rfl
def Qg{s:aw}{m:Nat}(h:m<=s.length):qA 2 (tysD s) (some m) (some none)=some (.of (dZ (s.drop m))):=by simp only[qA];rw[Bc _ _ (by rw[eY];exact h),Er];rfl
def TU{s:aw}{l m:Nat}(h:m<=s.length)(a:l<=m):qA 2 (tysD s) (some l) (some (some m))=some (.of (dZ ((s.take m).drop l))):=by simp only[qA];rw[Cu _ _ (by rw[eY];exact h),Es,Option.bind_some,Bc _ _ (by rw[eY];simp;omega),Er];rfl
def zF{a b:Int}(h:a=b)(c:0<=b)(d:b<=1000000000):IntKind.i64.wrap a=b:=by subst h;rw[yb];omega
def al0:∀q∈([]:List Prop),q:=λq h=>by simp at h
def al{p:Prop}{ps:List Prop}(h:p)(t:∀q∈ps,q):∀q∈p::ps,q:=λq a=>by
 rcases kl.1 a with rfl|a
 .exact h
 .exact t q a
def nq (a k:Int):Prop:=some (aQ (decide (a=k)))=some (.of (bA false))
def oL{a k:Int}(h:a≠k):nq a k:=by simp[nq,h,aQ,bA]
abbrev fA:A1:=bA false
def jJ (b v:Bool):Prop:=some (aQ b)=some (.of (bA v))
def eT{b v:Bool}(h:b=v):jJ b v:=by rw[h];rfl
def wI{S:St}{q:Prop}(b:q){ps:List Prop}(h:∀p∈ps,p):∀p∈ps++(q::S.map (λx=>some x.2=some x.2)),p:=λp a=>by
 rcases ki.1 a with a|a
 .exact h p a
 .rcases kl.1 a with rfl|a
  .exact b
  .obtain⟨x,_,rfl⟩:=kB.1 a;rfl
def LH{ok:br}{w:cg}{t:Tr}{v:cm}(h:bI ok w t v):okN t/\gm (λ_=>none) ok w (ndA t) v:=by obtain⟨hk,k,n,p,s,a,c,e,rfl,b⟩:=qL h;refine⟨hk,?_⟩;rw[e];exact⟨_,rfl,.v _,.v _,.v _,.v _,by rw[<-e];exact b,trivial⟩
abbrev gF (f:Func):Code:=(loopOf (f.body.getD .skip)).getD .skip
def Xk {α:Type} : List (Bool×α)->List α
 | []=>[]
 | (true,x)::l=>x::Xk l
 | (false,_)::l=>Xk l
def IM{b:Bool}{p:Prop}{l:List (Bool×Prop)}(h:p)(t:∀q∈Xk l,q):∀q∈Xk ((b,p)::l),q:=by
 cases b with
 | false=>exact t
 | true=>exact al h t
def askedX:Option (AV×(List (Option (List X))×List (Option AV))×List Sp×Obl)->Option ((AV×(List (Option (List X))×List (Option AV)))×List Sp×List Prop×List Prop)
 | some (v,ys,C,ob)=>some ((v,ys),C,(ob.filter λp=>!p.1).map (·.2),(ob.filter λp=>p.1).map (·.2))
 | none=>none
abbrev HX (f:FuncId) (args:List A1) (res:AV) (H H':Hp):Prop:=Hd (@Sp.mk f args res mv0 fr0 ⟨H,H'⟩)
abbrev hK (n:Nat):Nat:=800000+100*n
abbrev HB (f:FuncId) (xs:List X) (args:List A1) (res:AV) (ys:List X):Prop:=HX f (.one (.p (hK xs.length) 0)::args) res ⟨[(hK xs.length,xs)],[]⟩ ⟨[(hK xs.length,ys)],[]⟩
def bH{f:FuncId}{fn:Func}(q:prog.funcs[f]?=some fn)(T:Hints)(L:List Lp)(g:HL){args:List A1}{res:AV}{d a:Hp}{ob:List Prop}(n:∀β,∀l∈L,@vO (qh β) prog fn.ntmps l)
 (hob:∀p∈ob,p) (h:askedX (evX prog fn (fn.body.getD .skip) T L (g.map (·.1)) args d a)=some ((res,(a.bx.map (λe=>some e.2),a.ls.map (λe=>some e.2))),[],(g.map (·.1)).map (λs=>s.need=s.need),ob):=by kernel_rfl)
 (hno:(@Sp.mk f args res mv0 fr0 ⟨d,a⟩).no=false:=by rfl) (hb:fn.body.isSome:=by kernel_rfl) (hn:(fn.name == "runtime.NumGoroutine")=false:=by kernel_rfl):HX f args res d a:=by
 have⟨c,i⟩:=qf4.1 hb;rw[i]at h;unfold askedX at h;split at h<;>try (cases h;done)
 rename_i v zs C b o;simp only[qq,ju]at h;obtain⟨⟨rfl,rfl⟩,rfl,k,m⟩:=h;refine acj mixed q i hn T L _ hno (λs r=>by obtain⟨x,_,rfl⟩:=kB.1 r;exact x.2) n o (λp j=>?_)
 cases hb:p.1 with
 | false =>
  have : p.2∈(b.filter λp=>!p.1).map (·.2):=kB.2 ⟨p,jb4.2 ⟨j,by simp[hb]⟩,rfl⟩;rw[k]at this;have⟨s,_,e⟩:=kB.1 this;exact e ▸ trivial
 | true =>
  have : p.2∈(b.filter λp=>p.1).map (·.2):=kB.2 ⟨p,jb4.2 ⟨j,hb⟩,rfl⟩;rw[m]at this;exact hob _ this
def HX.to{f:FuncId}{args c:List A1}{res d:AV}{H H' K i:Hp}(h:HX f args res H H')(a b:Nat)(e:(args.map (A1.sw a b),res.sw a b,H.sw a b,H'.sw a b)=(c,d,K,i):=by rfl)(hc:(a<1000000/\b<1000000)\/(2000000<=a/\2000000<=b):=by decide)(g:(@Sp.mk f args res mv0 fr0 ⟨H,H'⟩).no=false:=by rfl):HX f c d K i:=by simp only[ju]at e;obtain⟨rfl,rfl,rfl,rfl⟩:=e;exact Holds.sw h a b hc g
def HX.post{f:FuncId}{args:List A1}{res c:AV}{H H' g:Hp}(h:HX f args res H H')(a b:Nat)(e:(res.sw a b,H'.sw a b)=(c,g):=by rfl)(hc:2000000<=a/\2000000<=b:=by decide)(d:(@Sp.mk f args res mv0 fr0 ⟨H,H'⟩).no=false:=by rfl):HX f args c H g:=by simp only[ju]at e;obtain⟨rfl,rfl⟩:=e;exact Holds.swP h a b hc d
def HX.conv{f:FuncId}{args:List A1}{b res:AV}{H H':Hp}(h:HX f args b H H')(j:∀β ok w v,iZ β ok w b v->iZ β ok w res v)(nk:res.keys.all H'.lk:=by rfl)(a:(@Sp.mk f args b mv0 fr0 ⟨H,H'⟩).no=false:=by rfl):HX f args res H H':=by refine⟨⟨h.OT.1,nk⟩,?_⟩;show (match (@Sp.mk f args res mv0 fr0 ⟨H,H'⟩).no with|false=>yc prog f args res H H'|true=>_);rw[show (@Sp.mk f args res mv0 fr0 ⟨H,H'⟩).no=false from a];exact λβ ok w l hF k=>(h.bH a β ok w l hF k).mono λe m ⟨β',c,d,v,g,i⟩=>⟨β',c,d,v,g,j _ _ _ _ i⟩
def Oq{R:pq}{a:HL}(hm:((a.map (·.1)).all λs=>s.mv.p.isNone)):∀s∈a.map (·.1),@Holds R prog s:=λs b=>by have:=kd.1 hm s b;obtain⟨x,_,rfl⟩:=kB.1 b;exact @Holds.any res0 R _ _ x.2 (by simpa using this)
def fF{β:Nat->Option Nat}{nt:Nat}{b:Code}{pre a:St}{e:Nat}(T:Hints)(c:HL){ob:List Prop}(d:∀p∈ob,p)(h:TF a (Dt prog T [] nt b (c.map (·.1)) pre)=some (e+1,[],(c.map (·.1)).map (λs=>s.need=s.need),ob,a.map λx=>some x.2):=by kernel_rfl)(hc:closed a:=by kernel_rfl)(hm:((c.map (·.1)).all λs=>s.mv.p.isNone):=by kernel_rfl) : @vO (qh β) prog nt ⟨b,pre,e+1,a⟩:=by have⟨σ,k,f,g,i,j⟩:=Ll h d;exact @Un (qh β) _ mixed _ _ _ _ _ _ _ _ _ _ [] oe f (Oq hm) g i hc j
def jC{β:Nat->Option Nat}{nt:Nat}{a:Code}{pre b pre2:St}{ex:Nat}(T:Hints)(c:HL){ob:List Prop}(j : @vO (qh β) prog nt ⟨a,pre2,ex,b⟩)(d:∀p∈ob,p)(h:TF pre2 (Dt prog T [] nt a (c.map (·.1)) pre)=some (0,[],(c.map (·.1)).map (λs=>s.need=s.need),ob,pre2.map λx=>some x.2):=by kernel_rfl)(hc:closed pre2:=by kernel_rfl)(hm:((c.map (·.1)).all λs=>s.mv.p.isNone):=by kernel_rfl) : @vO (qh β) prog nt ⟨a,pre,ex,b⟩:=by have⟨σ,k,e,f,g,i⟩:=Ll h d;exact @Uo (qh β) _ mixed _ _ _ _ _ _ _ _ _ _ _ [] oe e (Oq hm) f g hc i j
def gW (p:Int) (args:aE):Tr:=.nd 2 0 p ⟨#[]⟩ args
def eltT:Tr->Tr
 | .nd k n p s args=>.nd k n 28 s args
def Tr.k0:Tr->Int
 | .nd k _ _ _ _=>k
def Tr.n0:Tr->Int
 | .nd _ n _ _ _=>n
def Tr.p0:Tr->Int
 | .nd _ _ p _ _=>p
def Tr.s0:Tr->bp
 | .nd _ _ _ s _=>s
def aL (x:Va) (l:aE):Tr :=
 if x.k=1 then gW 20 []else if x.k=2 then gW (if x.n=0 then 22 else 21) []
 else if x.k=3\/x.k=4\/x.k=5\/x.k=7 then .nd 0 x.n 0 ⟨#[]⟩ []else if x.k=6 then .nd 1 0 0 x.s []
 else if x.k=9 then gW (if l.length=0 then 27 else 26) l else if x.k=11 then gW 23 l
 else if x.k=12 then gW (if x.n=0 then 24 else 25) l else if x.k=10 then .nd 3 0 0 ⟨#[]⟩ l
 else if x.k=13 then .nd 3 0 0 ⟨#[]⟩ (l.map eltT)else .nd (-1) 0 0 ⟨#[]⟩ []
mutual
def dataT:Va->Tr
 | .mk k n a s args ty co=>aL (.mk k n a s args ty co) (dataTs args)
def dataTs:ao->aE
 | []=>[]
 | x::xs=>dataT x::dataTs xs
end
def dL (T:Ty) (p:Int):Option (Int×aw) :=
 if T.t=1/\p=20 then some (0,[])else if T.t=2/\p=22 then some (0,[])else if T.t=2/\p=21 then some (1,[])
 else if T.t=9/\p=27 then some (0,[])else if T.t=9/\p=26 then some (0,T.args)else if T.t=11/\p=23 then some (0,T.args)
 else if T.t=12/\p=24 then some (0,T.args.take 1)else if T.t=12/\p=25 then some (1,T.args.drop 1)else none
def fM (t n:Int) (s:bp) (l:ao):Va:=.mk t n 0 s l [] []
mutual
def readT:Tr->Ty->Option Va
 | .nd k n p s args,T =>
  if T.t=3\/T.t=4\/T.t=5\/T.t=7 then (if k=0 then some (fM T.t n ⟨#[]⟩ [])else none)
  else if T.t=6 then (if k=1 then some (fM 6 0 s [])else none)
  else if T.t=10 then (if k=3 then (readTs args (List.replicate args.length (aJ T.args 0))).map (fM 10 0 ⟨#[]⟩)else none)
  else if T.t=13 then (if k=3 then (readEs args T.args).map (fM 13 0 ⟨#[]⟩)else none)
  else match dL T p with
   | none=>none
   | some (m,ts)=>(readTs args ts).map (fM T.t m ⟨#[]⟩)
def readTs:aE->aw->Option ao
 | [],[]=>some []
 | t::l,T::ts=>match readT t T with
  | none=>none
  | some x=>(readTs l ts).map (x :: ·)
 | [],_::_=>none
 | _::_,[]=>none
def readEs:aE->aw->Option ao
 | [],_=>some []
 | .nd k n p s args::l,ts=>match readTs args ts with
  | none=>none
  | some ys=>if p=28 then (readEs l ts).map (fM 11 0 ⟨#[]⟩ ys :: ·)else none
end
def Va.eta(x:Va):x =.mk x.k x.n x.a x.s x.args x.types x.code:=by cases x;rfl
def oU{T:Ty}(hc:eB T):(T.t≠8/\T.t≠14/\T.t≠15)/\∀y∈T.args,eB y:=by have⟨t,c⟩:=T;simp only[eB,sW,qt,Bq,Bool.not_true,jd3]at hc;have⟨b,a⟩:=hc;simp only[LU,jt]at b;rw[yL,kd]at a;exact⟨b,a⟩
def uh{d:Nat}{T:Ty}(h:bf d T):1<=T.t/\T.t<=15:=by have⟨t,a⟩:=T;simp only[bf,qt,jH,jt]at h;exact h.1.2.1
def nY{T:Ty}{x:Va}(w:hasV x T)(hc:eB T) :
 x.k=T.t/\x.a=0/\x.types=[]/\x.code=[]/\(T.t≠6->x.s=⟨#[]⟩)/\bQ T.t x.n/\∃ts,bS T x=some ts/\hasVs x.args ts:=by
 have⟨v,u⟩:=oU hc;have⟨j,ts,o,l⟩:=Bo w;unfold eX at j;simp only[qt,jt,qe2]at j;have⟨⟨⟨⟨⟨hk,q⟩,r⟩,m⟩,b⟩,i⟩:=j;have g:x.a=0:=by
  rcases r with h|h
  .exact h
  .exact absurd h.1 od
 have e:x.types=[]:=by unfold eZ at b;rw[oa,oa]at b;exact jz (by simpa using b)
 have c:x.code=[]:=by
  rcases i with h|h
  .exact jz h
  .exact absurd h od
 refine⟨hk,g,e,c,λp=>?_,q,ts,o,l⟩;have h0:x.s.size=0:=by
  rcases m with h|h
  .exact h
  .exact absurd h.1 p
 have f:x.s.data=#[]:=jb0 h0
 cases y:x.s with
 | mk d=>rw[y]at f;simp at f;rw[f]
def LK{T:Ty}{x:Va}{d:Nat}{ts:aw}(b:bf d T)(g:T.t<=7)(a:bS T x=some ts):x.args=[]:=by
 have⟨c,_⟩:=jU b;have⟨e,_⟩:=uh b;have f:bT T.t=0:=Xs
 unfold bS at a;simp only at a;rw[oa,oa,oa,oa,oa,oa]at a;split at a
 .rename_i h;exact jz od
 .cases a
def D9{us:aw}{d:Nat}(h:∀U∈us,eB U/\bf d U):eB (.nd 11 us):=by simp only[eB,sW,Bq,Bool.not_true,jd3,qt];refine⟨ot,?_⟩;rw[yL,kd];exact λU a=>(h U a).1
mutual
def cntV:Va->Nat
 | .mk _ _ _ _ args _ _=>cntVs args+1
def cntVs:ao->Nat
 | []=>0
 | x::xs=>cntV x+cntVs xs
end
mutual
def jg (c:Nat):Va->Nat×Tr
 | .mk k n a s args ty co=>((dJ (c+1) args).1,aL (.mk k n a s args ty co) (dJ (c+1) args).2)
def dJ (c:Nat):ao->Nat×aE
 | []=>(c,[])
 | x::xs=>if 300<c then (c,[])else ((dJ (jg c x).1 xs).1,(jg c x).2::(dJ (jg c x).1 xs).2)
end
def Qb(x:Va):1<=cntV x:=by cases x;simp[cntV]
mutual
def tell_full:∀(x:Va) (c:Nat),c+cntV x<=301->jg c x=(c+cntV x,dataT x)
 | .mk k n a s b f e,c=>by intro h;rw[cntV]at h;have d:=tells_full b (c+1) od;rw[jg,d,cntV,dataT];simp only[ju,and_true];omega
def tells_full:∀(xs:ao) (c:Nat),c+cntVs xs<=301->dJ c xs=(c+cntVs xs,dataTs xs)
 | [],c=>by intro _;simp[dJ,cntVs,dataTs]
 | x::xs,c=>by intro h;rw[cntVs]at h;have d:=Qb x;have b:=tell_full x c od;have a:=tells_full xs (c+cntV x) od;rw[dJ,oa,b,a,cntVs,dataTs];simp only[ju,and_true];omega
end
mutual
def tell_most:∀(x:Va) (c:Nat),c<=300->c<(jg c x).1/\(jg c x).1<=301/\(301<=c+cntV x->(jg c x).1=301)
 | .mk k n a s b m f,c=>by
  intro h;rw[jg,cntV]
  by_cases j:c+1<=300
  .have⟨g,i,d⟩:=tells_most b (c+1) od;exact⟨vu,vu,λl=>by simp only;exact d od⟩
  .have e:c+1=301:=by omega
   rw[e]
   cases b with
   | nil=>simp[dJ,cntVs];omega
   | cons x o=>simp[dJ];omega
def tells_most:∀(xs:ao) (c:Nat),c<=300->c<=(dJ c xs).1/\(dJ c xs).1<=301/\(301<=c+cntVs xs->(dJ c xs).1=301)
 | [],c=>by intro h;simp[dJ,cntVs];omega
 | x::xs,c=>by
  intro h;have⟨i,j,b⟩:=tell_most x c h;rw[dJ,oa,cntVs];simp only
  by_cases d:(jg c x).1<=300
  .have⟨l,g,a⟩:=tells_most xs (jg c x).1 d;refine⟨od,g,λk=>?_⟩
   by_cases f:301<=c+cntV x
   .have:=b f;omega
   .have e:=tell_full x c od;rw[e]at a|-;exact a vu
  .have e:(jg c x).1=301:=by omega
   rw[e]
   cases xs with
   | nil=>simp[dJ];omega
   | cons y m=>simp[dJ];omega
end
def qm (t:Tr):Prop:=∀d,bC d t=0\/bC d t=4
def firsts_ok:∀{l:aE},(∀t∈l,qm t)->∀d,bG d l=0\/bG d l=4
 | [],_,d=>by simp[bG]
 | t::l,h,d=>by
  rw[bG];rcases h t oe d with a|a
  .rw[if_neg (by simpa using a)];exact firsts_ok (λz b=>h z (by simp[b])) d
  .rw[if_pos (by rw[a];decide)];exact .inr a
def xW{k n p:Int}{s:bp}{l:aE}(b:Lf.fD k n p s l.length=0)(h:∀t∈l,qm t):qm (.nd k n p s l):=by
 intro d;rw[bC]
 by_cases a:24<d
 .rw[if_pos a];exact .inr rfl
 .rw[if_neg a,if_neg (by simpa using b)];exact firsts_ok h (d+1)
def KT(p:Int)(h:Lf.gD p)(l:Nat):Lf.fD 2 0 p ⟨#[]⟩ l=0:=by unfold Lf.fD;rw[if_neg ot,if_neg (by rw[h];simp),if_neg (by simp[Lf.qM];rfl),oa,if_neg ot]
def Ez(l:Nat):Lf.fD 3 0 0 ⟨#[]⟩ l=0:=ON
def OP(n:Int)(h:-1152921504606846976<=n/\n<=1152921504606846976):Lf.fD 0 n 0 ⟨#[]⟩ 0=0:=ON
def KV(s:bp)(h:s.size<=200):Lf.fD 1 0 0 s 0=0:=by unfold Lf.fD;rw[if_neg ot,oa,if_neg (by simp[Lf.qM]),oa,oa]
def vD{p:Int}{l:aE}(a:Lf.gD p)(h:∀t∈l,qm t):qm (gW p l):=xW (KT p a _) h
def Qj(t:Tr):(eltT t).size=t.size:=by cases t;simp[eltT,Tr.size]
def elts_size:∀l:aE,sizes (l.map eltT)=sizes l
 | []=>rfl
 | t::l=>by simp[sizes,Qj,elts_size l]
def Sc{T:Ty}{x:Va}{d:Nat}{ts:aw}(A:hasV x T)(q:eB T)(h:bf d T)(a:bS T x=some ts):∀U∈ts,eB U/\∃k,bf k U:=by
 have⟨hk,C,z,s,E,o,B,r,u⟩:=nY A q;have⟨y,j⟩:=oU q;have⟨b,i⟩:=jU h;have c:∀U∈T.args,eB U/\∃k,bf k U:=λU e=>⟨j U e,d+1,i U e⟩;unfold bS at a;simp only at a;rw[oa]at a;intro U e;split at a
 .simp only[qq]at a;subst a;simp at e
 .split at a
  .rename_i l;split at a
   .simp only[qq]at a;subst a;rw[qf6 e];have v:T.args.length=1:=by rw[l]at b;simp[bT]at b;omega
    exact c _ (by unfold aJ;rw[qu od];exact yy _)
   .cases a
  .split at a
   .rename_i g;split at a
    .simp only[qq]at a;subst a;rw[qf6 e];refine⟨D9 (d:=d+1) (λV p=>⟨j V p,i V p⟩),d,?_⟩;have⟨t,m⟩:=T;simp only[Ty.t]at g;subst g;simp only[bf,qt,jt,Ty.args]at h|-;refine⟨⟨h.1.1,ot,?_⟩,h.2⟩;have:=h.1.2.2;simp[bT]at this|-;exact this
    .cases a
   .split at a
    .rename_i f;split at a
     .simp only[qq]at a;subst a;simp only[qv]at e;subst e;have w:T.args.length=2:=by rw[f]at b;simp[bT]at b;omega
      have D:x.n=0\/x.n=1:=by rw[f]at o;simpa[bQ]using o
      exact c _ (by unfold aJ;rw[qu od];exact yy _)
     .cases a
    .rw[oa]at a;split at a
     .simp only[qq]at a;subst a;exact c U e
     .cases a
def yJ (t:Tr):Prop:=∃l',t=gW 23 l'/\∀u∈l',qm u
def KF{T:Ty}{x:Va}(b:hasV x T)(c:T.t=6):x.s.size<=200:=by
 have⟨a,_⟩:=Bo b;unfold eX at a;simp only[qt,jt,qe2]at a;rcases a.1.1.2 with h|h
 .omega
 .exact h.2
def CF{T:Ty}{x:Va}{d:Nat}(k:hasV x T)(j:eB T)(i:bf d T)(l:aE)(h0:x.args=[]->l=[])(a:∀t∈l,qm t)(hm:T.t=13->∀t∈l,yJ t) :
 qm (aL x l)/\(aL x l).size=sizes l+1/\(T.t=11->yJ (aL x l)):=by
 have⟨hk,B,z,q,C,b,E,g,r⟩:=nY k j;have⟨w,v⟩:=oU j;have m:=uh i
 by_cases o:T.t<=7
 .have f:=h0 (LK i o g);subst f;rcases (show T.t=1\/T.t=2\/T.t=3\/T.t=4\/T.t=5\/T.t=6\/T.t=7 from by omega)with h|h|h|h|h|h|h
  all_goals
   rw[h]at hk b;refine⟨?_,?_,λe=>od⟩
  .simp only[aL,hk,if_true];exact vD rfl a
  .simp[aL,hk,gW,Tr.size,sizes]
  .have e:aL x []=gW (if x.n=0 then 22 else 21) []:=by unfold aL;rw[oa,if_pos hk]
   rw[e];split<;>exact vD rfl a
  .have e:aL x []=gW (if x.n=0 then 22 else 21) []:=by unfold aL;rw[oa,if_pos hk]
   rw[e];simp[gW,Tr.size,sizes]
  all_goals first
   | (have e:aL x [] =.nd 0 x.n 0 ⟨#[]⟩ []:=(by unfold aL;rw[oa,oa,oc])
      rw[e]
      first
       | exact xW (OP x.n (by simp[bQ,kE,gN,lY]at b;omega)) a
       | simp[Tr.size,sizes])
   | (have e:aL x [] =.nd 1 0 0 x.s []:=(by unfold aL;rw[oa,oa,oa,oc])
      rw[e]
      first
       | exact xW (KV x.s (KF k h)) a
       | simp[Tr.size,sizes])
 .rcases (show T.t=9\/T.t=10\/T.t=11\/T.t=12\/T.t=13 from by omega)with h|h|h|h|h
  all_goals
   rw[h]at hk b
  .have e:aL x l=gW (if l.length=0 then 27 else 26) l:=by unfold aL;rw[oa,oa,oa,oa,if_pos hk]
   rw[e];exact⟨by split<;>exact vD rfl a,by simp[gW,Tr.size],λe=>od⟩
  .have e:aL x l =.nd 3 0 0 ⟨#[]⟩ l:=by unfold aL;rw[oa,oa,oa,oa,oa,oa,oa,if_pos hk]
   rw[e];exact⟨xW (Ez _) a,by simp[Tr.size],λe=>od⟩
  .have e:aL x l=gW 23 l:=by unfold aL;rw[oa,oa,oa,oa,oa,if_pos hk]
   rw[e];exact⟨vD rfl a,by simp[gW,Tr.size],λ_=>⟨l,rfl,a⟩⟩
  .have e:aL x l=gW (if x.n=0 then 24 else 25) l:=by unfold aL;rw[oa,oa,oa,oa,oa,oa,if_pos hk]
   rw[e];exact⟨by split<;>exact vD rfl a,by simp[gW,Tr.size],λe=>od⟩
  .have e:aL x l =.nd 3 0 0 ⟨#[]⟩ (l.map eltT):=by unfold aL;rw[oa,oa,oa,oa,oa,oa,oa,oa,if_pos hk]
   rw[e];refine⟨xW (Ez _) (λt y=>?_),by simp[Tr.size,elts_size],λe=>od⟩;obtain⟨u,A,rfl⟩:=kB.1 y;obtain⟨D,rfl,c⟩:=hm h u A;exact vD (p:=28) rfl c
def Sg{T:Ty}{x:Va}{ts:aw}(h:T.t=13)(a:bS T x=some ts):∀U∈ts,U.t=11:=by
 unfold bS at a;simp only at a;rw[oa,oa,oa,if_pos h]at a;split at a
 .simp only[qq]at a;subst a;intro U b;rw[qf6 b];rfl
 .cases a
def KE(c:Nat):(dJ c []).2=[]:=by simp[dJ]
mutual
def tell_ok:∀(x:Va) (T:Ty) (d c:Nat),hasV x T->eB T->bf d T->qm (jg c x).2/\(jg c x).2.size+c=(jg c x).1/\(T.t=11->yJ (jg c x).2)
 | .mk k n a s b F A,T,d,c=>by intro j i l;have⟨hk,D,u,q,E,C,v,f,g⟩:=nY j i;have⟨o,B,p⟩:=tells_ok b v (c+1) g (Sc j i l f);have⟨w,y,z⟩:=CF j i l (dJ (c+1) b).2 (λe=>by have m:b=[]:=e;rw[m,KE]) o (λh t r=>p (Sg h f) t r);rw[jg];exact⟨w,by simp only;rw[y];omega,z⟩
def tells_ok:∀(xs:ao) (ts:aw) (c:Nat),hasVs xs ts->(∀U∈ts,eB U/\∃d,bf d U)->(∀t∈(dJ c xs).2,qm t)/\sizes (dJ c xs).2+c=(dJ c xs).1/\((∀U∈ts,U.t=11)->∀t∈(dJ c xs).2,yJ t)
 | [],_,c=>by intros;simp[dJ,sizes]
 | _::_,[],_=>by intro h;simp[hasVs]at h
 | x::xs,T::ts,c=>by
  intro g i;simp only[hasVs,qt]at g;have⟨f,d,e⟩:=i T oe;have⟨j,n,k⟩:=tell_ok x T d c g.1 f e;have⟨l,o,m⟩:=tells_ok xs ts (jg c x).1 g.2 (λU b=>i U (by simp[b]));rw[dJ];split
  .simp[sizes]
  .refine⟨?_,?_,?_⟩
   .intro t a;rcases kl.1 a with rfl|a
    .exact j
    .exact l t a
   .simp only[sizes];omega
   .intro h t a;rcases kl.1 a with rfl|a
    .exact k (h T oe)
    .exact m (λU b=>h U (by simp[b])) t a
end
def dataTs_nil:dataTs []=[]:=by simp[dataTs]
mutual
def data_ok:∀(x:Va) (T:Ty) (d:Nat),hasV x T->eB T->bf d T->qm (dataT x)/\(dataT x).size=cntV x/\(T.t=11->yJ (dataT x))
 | .mk k n a s b E z,T,d=>by intro i g j;have⟨hk,C,r,p,D,B,u,c,f⟩:=nY i g;have⟨m,A,o⟩:=datas_ok b u f (Sc i g j c);have⟨v,w,y⟩:=CF i g j (dataTs b) (λe=>by have l:b=[]:=e;rw[l,dataTs_nil]) m (λh t q=>o (Sg h c) t q);rw[dataT,cntV];exact⟨v,by rw[w];omega,y⟩
def datas_ok:∀(xs:ao) (ts:aw),hasVs xs ts->(∀U∈ts,eB U/\∃d,bf d U)->(∀t∈dataTs xs,qm t)/\sizes (dataTs xs)=cntVs xs/\((∀U∈ts,U.t=11)->∀t∈dataTs xs,yJ t)
 | [],_=>by intros;simp[dataTs,sizes,cntVs]
 | _::_,[]=>by intro h;simp[hasVs]at h
 | x::xs,T::ts=>by
  intro f g;simp only[hasVs,qt]at f;have⟨e,d,c⟩:=g T oe;have⟨i,m,j⟩:=data_ok x T d f.1 e c;have⟨k,n,l⟩:=datas_ok xs ts f.2 (λU b=>g U (by simp[b]));rw[dataTs,cntVs];refine⟨?_,?_,?_⟩
  .intro t a;rcases kl.1 a with rfl|a
   .exact i
   .exact k t a
  .simp only[sizes];omega
  .intro h t a;rcases kl.1 a with rfl|a
   .exact j (h T oe)
   .exact l (λU b=>h U (by simp[b])) t a
end
def dR (x:Va):Tr:=(jg 0 x).2
def DV{t:Tr}(h:qm t)(b:300<t.size):dS t=4:=by
 unfold dS;rcases h 1 with a|a
 .rw[if_neg (by simpa using a),if_pos b]
 .rw[if_pos (by rw[a];decide),a]
def OD{x:Va}{T:Ty}{d:Nat}(c:hasV x T)(b:eB T)(a:bf d T):dS (dR x)=dS (dataT x)/\(dS (dR x)=0->dR x=dataT x)/\(dR x).size<=301:=by
 have⟨f,j,_⟩:=tell_ok x T d 0 c b a;have⟨g,k,_⟩:=data_ok x T d c b a;have⟨l,m,i⟩:=tell_most x 0 od;unfold dR
 by_cases h:cntV x<=301
 .have e:=tell_full x 0 od;rw[e];exact⟨rfl,λ_=>rfl,vu⟩
 .have n:=i od;have g1:=DV f od;have g2:=DV g od;rw[g1,g2];exact⟨rfl,λe=>absurd e ot,od⟩
def readTs_length:∀(l:aE) (ts:aw) (ys:ao),readTs l ts=some ys->ys.length=ts.length
 | [],[],ys=>by intro h;simp[readTs]at h;subst h;rfl
 | [],_::_,ys=>by intro h;simp[readTs]at h
 | _::_,[],ys=>by intro h;simp[readTs]at h
 | t::l,T::ts,ys=>by
  intro h;rw[readTs]at h
  cases a:readT t T with
  | none=>rw[a]at h;cases h
  | some x =>
   rw[a]at h;simp only[qS]at h;obtain⟨c,b,rfl⟩:=h;simp[readTs_length l ts c b]
section
def adv{K:br}{w w':cg}(h:cq w w' none):Same K w w':=λb o _ a=>ke (h.block b a oe)
def jX{l r:List Prop}(h:∀p∈l,p)(k:∀p∈r,p):∀p∈l++r,p:=λp a=>(ki.1 a).elim (h p) (k p)
def Yp (l:aE) (m:Nat) (t:Tr):Prop:=Bp 5 5 (ndsD l) m=some (.of (.one (.e (ndD t) 0)))
def WV{l:aE}{m:Nat}{t:Tr}(h:l[m]?=some t):Yp l m t:=by unfold Yp Bp;rw[ndsD_map,qb0,h];cases t;rfl
def qY(l:ao):(vasD l).length=l.length:=Ks
def Hf(l:aE):(ndsD l).length=l.length:=by simp[ndsD_map]
def row_refl:∀l:bd,L2 Ja l l
 | []=>trivial
 | _::l=>⟨.inl rfl,row_refl l⟩
def rows_refl:∀l:List bd,rowsLe l l
 | []=>trivial
 | _::l=>⟨row_refl _,rows_refl l⟩
def vG{a b:bd}(h:L2 Ja a b):∀l:List bd,rowsLe (l++[a]) (l++[b])
 | []=>⟨h,trivial⟩
 | _::l=>⟨row_refl _,vG h l⟩
def zV (y l:Nat) (es rows:List bd):Prop:=(l<=es.length/\rows≠[])/\jl rows/\l+rows.length<=maxLen/\(l+rows.length)*y<=140737488355328
def iL{y l:Nat}{es rows:List bd}(b:l<=es.length)(a:rows≠[])(d:jl rows)(c:l+rows.length<=100000000)(e:y<=1000):zV y l es rows :=
 ⟨⟨b,a⟩,d,ZS,xo (Nat.mul_le_mul c e) ot⟩
def DI{es A:List bd}{r:bd}{m n:Nat}(hm:A.length=m)(b:∀q∈A,q.length=n)(g:r.length=n)(h:es.take (m+1)=A++[r]):dY es (m*n) n=some (r.map .d)/\es.take m=A/\m<=es.length:=by
 have e:A.flatten.length=m*n:=by
  subst hm;clear h
  induction A with
  | nil=>simp
  | cons a A i=>rw[jd7,jx,b a oe,i (λq f=>b q (by simp[f])),js,qg3];omega
 have c:es.flatten=A.flatten++(r++(es.drop (m+1)).flatten):=by
  conv=>lhs;rw[<-qc6 (m+1) es,h]
  simp
 refine⟨?_,?_,?_⟩
 .unfold dY;rw[c,if_pos (by simp only[jx];omega),<-e,List.drop_left,je1 g]
 .have:=congrArg (List.take m) h;rw[jh0,jc6 od]at this;rw[this,je1 hm]
 .have:=congrArg List.length h;simp at this;omega
def DC(l:ao):jl (vasD l):=by rw[vasD_map];simp only[jl,List.all_map,kd,Function.comp];intro y _ x b;have⟨k,n,a,s,r,t,c⟩:=y;simp only[vaD,kl,qf2,or_false]at b;rcases b with rfl|rfl|rfl|rfl|rfl|rfl|rfl<;>rfl
def LQ(xs:ao)(x:Va):vasD (xs++[x])=vasD xs++[vaD x]:=Ks
def Tg{ok:br}{w w':cg}{e:TypeId}{n g cap:Nat}(hn:0<n)(h:w'.ownsRow w.heap.size e n (.o g 0 cap) 0 []):Jh ok w w' e n [] (.o g 0 cap):=by
 obtain⟨_,⟨h,_⟩|⟨g,cap,c,h,hb,a,f,d,b,_⟩⟩:=h
 .cases h
 .simp only[ye,qq,jb2,and_true,true_and]at h;obtain⟨rfl,rfl⟩:=h;exact⟨_,_,rfl,hb,yv _,by rw[Zp,a];simp only[b],_,c,_,⟨rfl,jj _⟩,a,b,yv _,d,hn,oe,oe⟩
def KC(s:aw):jl (tysD s):=by rw[tysD_map];simp only[jl,List.all_map,kd,Function.comp];intro T _ x b;have⟨t,a⟩:=T;simp only[tyD,kl,qf2,or_false]at b;rcases b with rfl|rfl<;>rfl
def Jr{T:Ty}{n:Nat}(C:okT T)(hn:n<1000):Hd ⟨90,[dZ [T],iA n],.of (dZ (List.replicate n T))⟩:=⟨tF func90,λok w F h=>by
 match F,h with
 | [u,v],⟨z,A,_⟩ =>
  obtain⟨a,c,V,rfl,_,q⟩:=jR (ts:=[T]) ⟨C,trivial⟩ (.inl rfl) z;obtain rfl:=bW A;obtain⟨b,o,rfl,_,m,d,l,f,k,x,y⟩:=q.2.1 0 oe;have p:=q.2.2 0 oe;rw[k]at p;refine (Rw m d l f b o n c hn w (by simpa using x) (by simpa using y)).mono ?_;rintro e G ⟨g,rfl,D,⟨t,s,J,K,E⟩,r⟩;have B:dw (λb=>ok b\/w.heap.size<=b) G (List.replicate n T) (some ⟨g,0,none⟩) (λ_=>bY m d l f):=by
   refine⟨by simp[maxLen];omega,λi j=>?_,λi j=>?_⟩
   .rw[List.length_replicate]at j;have⟨H,I⟩:=E i j;refine⟨g,0,rfl,.inr D,m,d,l,f,rfl,?_,?_⟩<;>rw[qb1]
    .simp[World.cell?,s,H]
    .simp[World.cell?,s,I]
   .rw[List.getElem_replicate];exact (aH.same p (adv r)).ae λb _ h=>.inl h
  have:=(qV (c:=n) B oe).2;rw[List.length_replicate]at this;exact⟨r,_,rfl,this⟩⟩
end
def EZ:(prog.info? 81).map (λi=>(i.zero,i.size,i.bytes))=some (some (.agg #[.i 0,.n0,.i 0,.i 0,.i 0,.string ⟨#[]⟩,.n0,.n0,.n0]),9,144):=oA
def GrowAt (g:FuncId) (e:TypeId) (c:Nat):Prop:=(g=188/\e=29/\c=7)\/(g=162/\e=25/\c=2)\/(g=89/\e=81/\c=9)
section
variable {g:FuncId}{e:TypeId}{c n:Nat}
def Hl(f:GrowAt g e c)(h0:n≠0)(hn:n<=20000000):HdF g [nilA,iA n] (.kv e c []):=⟨by rcases f with⟨rfl,_⟩|⟨rfl,_⟩|⟨rfl,_⟩<;>first|exact tF func188|exact tF func162|exact tF func89,λok w F h=>by
 match F,h with
 | [u,v],⟨l,m,_⟩ =>
  obtain⟨a,G,_,rfl,_⟩:=fH (show fI ok w (.s 0 []) u from l);obtain⟨rfl,rfl⟩:=Rv l rfl;obtain rfl:=bW m;have E:(n:Int)<=20000000:=od
  have C:¬(n:Int)<0:=od
  have r:(n:Int) > 0:=od
  have Z:=λ{t e:TypeId} {z:cm} {c y:Nat} (i:(prog.info? e).map (λi=>(i.zero,i.size,i.bytes))=some (some z,c,y)) (u:prog.underlying t=some (.slice e)) (l:0<c) (m:z.cells.size=c) (D:y<=1000)=>zG w t 3 t e .i64 .i64 z c y i u underlying3 n od l m od D;rcases f with⟨rfl,rfl,rfl⟩|⟨rfl,rfl,rfl⟩|⟨rfl,rfl,rfl⟩
  case' inl=>have⟨b,d,A,o,j,f,q,k⟩:=Z Qx underlying27 ot rfl ot
  case' inr.inl=>have⟨b,d,A,o,j,f,q,k⟩:=Z GK underlying23 ot rfl ot
  case' inr.inr=>have⟨b,d,A,o,j,f,q,k⟩:=Z EZ underlying82 ot rfl ot
  all_goals
   have HO:=jh j;have B:=jh f;clear j f Z;refine Calls.mono (R:=λx p=>∃g d,x =.returned (.o g 0 d)/\p.ownsRow w.heap.size _ _ (.o g 0 d) 0 []/\cq w p none) ?_ (λx p ⟨g,d,e,j,f⟩=>⟨f,_,e,Tg ot j⟩)
   first|go_enter func188,ntmps188|go_enter func162,ntmps162|go_enter func89,ntmps89
   go_wp2_with (at_builtin;refine Lib.wpList_append_run _ rfl _ _ _ _ rfl _ _ rfl rfl _ _ o ?_);go_ret;exact⟨_,_,rfl,HO,B⟩⟩
def Hz(b:GrowAt g e c):Hd ⟨g,[nilA,iA 0],.of nilA⟩:=⟨by rcases b with⟨rfl,_⟩|⟨rfl,_⟩|⟨rfl,_⟩<;>first|exact tF func188|exact tF func162|exact tF func89,λok w j h=>by
 match j,h with
 | [u,v],⟨d,i,_⟩ =>
  obtain⟨a,k,_,rfl,_⟩:=fH (show fI ok w (.s 0 []) u from d);obtain⟨rfl,rfl⟩:=Rv d rfl;obtain rfl:=bW i;refine Calls.mono (R:=λx f=>x =.returned (.n0)/\cq w f none) ?_ (λx f ⟨e,b⟩=>⟨b,_,e,PI _ _ (.n0)⟩);rcases b with⟨rfl,_⟩|⟨rfl,_⟩|⟨rfl,_⟩
  all_goals
   first|go_enter func188,ntmps188|go_enter func162,ntmps162|go_enter func89,ntmps89
   go_wp2;go_ret;exact⟨rfl,au _ _⟩⟩
end
def acM (f g:FuncId) (F:Func) (e:TypeId) (c y:Nat):Prop:=(f=216/\g=188/\F=f216/\e=29/\c=7/\y=112)\/(f=147/\g=162/\F=f147/\e=25/\c=2/\y=32)
section
variable {m n:Nat}{X Y:List bd}
def caR (m n:Nat) (X Y:List bd):A1:=.one (.d (.s 1 [[.s m X],[.s n Y]]))
def ca1 (m n:Nat) (X Y:List bd) (i:Int) (z:A1):St:=[((0,0),.of (caR m n X Y)),((0,9),.of (caR m n X Y)),((0,10),.of (iA 2)),((0,11),.of (iA i)),((0,3),.of z)]
def ca2 (e:TypeId) (c m n:Nat) (X Y:List bd) (i:Int) (k l:Nat) (es:List bd):St:=[((0,25),.of (caR m n X Y)),((0,26),.of (iA 2)),((0,27),.of (iA i)),((0,6),.of (.one (.g k c l))),((k+1,0),.kv e c es)]
def caN (m n:Nat) (i:Int):St:=[((0,25),.of (caR m n [] [])),((0,26),.of (iA 2)),((0,27),.of (iA i)),((0,6),.of nilA)]
abbrev caL (F:Func) (i:Nat) (pre:St) (ex:Nat) (post:St):Prop:=vO prog F.ntmps ⟨kC F i,pre,ex,post⟩
variable {f g:FuncId}{F:Func}{e:TypeId}{c y:Nat}(hb:acM f g F e c y)
include hb
def acb(h:X.length+Y.length<=20000000):caL F 0 (ca1 m n X Y 0 (iA 0)) 2 [((0,0),.of (caR m n X Y)),((0,3),.of (jA (X.length+Y.length)))]:=by
 have b:mD (lW (IntKind.i64.wrap (0+(X.length:Int)))) (jA X.length):=yY (zF oe oe ov);have c:mD (lW (IntKind.i64.wrap (Int.ofNat X.length+(Y.length:Int)))) (jA (X.length+Y.length)):=yY (zF oe ov ov);have a:∀j:Nat,mD (aQ (decide (Int.ofNat j<0))) fA:=λj=>wH oe;rcases hb with⟨_,_,rfl,_⟩|⟨_,_,rfl,_⟩
 all_goals
  refine LG (pre2:=ca1 m n X Y 1 (jA X.length)) [(18,jA X.length),(20,fA)] [] (LG (pre2:=ca1 m n X Y 2 (jA (X.length+Y.length))) [(18,jA (X.length+Y.length)),(20,fA)] [] (xQ (e:=1) [] [] al0) (al c (al (a (X.length+Y.length)) al0))) (al b (al (a X.length) al0))
variable {k l:Nat}{es:List bd}{i:Int}{post:St}(hk:k=3000024\/k=3000033)
include hk
def ca_end:caL F 1 (ca2 e c m n X Y 2 k l es) 4 [((0,6),.of (.one (.g k c l))),((k+1,0),.kv e c es)]:=by rcases hb with⟨_,_,rfl,rfl,rfl,_⟩|⟨_,_,rfl,rfl,rfl,_⟩<;>rcases hk with rfl|rfl<;>exact xQ (e:=3) [] [] al0
def abh(hi:i=0/\X=[]\/i=1/\Y=[])(h:caL F 1 (ca2 e c m n X Y (i+1) k l es) 4 post):caL F 1 (ca2 e c m n X Y i k l es) 4 post:=by have G:=λo a=>LG [(33,.one (.g k c l))] [] h (al (⟨rfl,rfl,rfl⟩:some (AV.of (.one (.g k c l)))=some (.of (.one (.g k c l)))/\([]:List bd)=[]/\true) al0) (pre:=ca2 e c m n X Y i k l es) (h:=o) (hc:=a);rcases hb with⟨_,_,rfl,rfl,rfl,_⟩|⟨_,_,rfl,rfl,rfl,_⟩<;>rcases hk with rfl|rfl<;>rcases hi with⟨rfl,rfl⟩|⟨rfl,rfl⟩<;>exact G oA oA
def Il{x:bd}{R:List bd}(hi:i=0/\X=x::R/\m=c\/i=1/\Y=x::R/\n=c)(a:rowsLe (es.take l++(x::R)) (es++x::R))(b:zV y l es (x::R))(h:caL F 1 (ca2 e c m n X Y (i+1) 3000033 (l+(x::R).length) (es++x::R)) 4 post):caL F 1 (ca2 e c m n X Y i k l es) 4 post:=by have G:=λo f=>LG [(2000033,.one (.d (.s c (es++x::R))))] [] h (al a (al b al0)) (pre:=ca2 e c m n X Y i k l es) (h:=o) (hc:=f);rcases hb with⟨_,_,rfl,rfl,rfl,rfl⟩|⟨_,_,rfl,rfl,rfl,rfl⟩<;>rcases hk with rfl|rfl<;>rcases hi with⟨rfl,rfl,rfl⟩|⟨rfl,rfl,rfl⟩<;>exact G oA oA
omit hk in
def aca(hm:m=c\/X=[])(hn:n=c\/Y=[])(d:jl X)(f:jl Y)(a:X.length+Y.length<=20000000)(h0:X.length+Y.length≠0):caL F 1 (ca2 e c m n X Y 0 3000024 0 []) 4 [((0,6),.of (.one (.g 3000033 c (X++Y).length))),((3000033+1,0),.kv e c (X++Y))]:=by
 have j:y<=1000:=by rcases hb with h|h<;>omega
 have b:=λ{es:List bd} {x:bd} {R:List bd} (h:jl (x::R)) (k:es.length+(x::R).length<=20000000)=>(⟨by rw[je6];exact rows_refl _,iL (jj _) oe h od j⟩:rowsLe (es.take es.length++(x::R)) (es++x::R)/\zV y es.length es (x::R));rcases X with _|⟨x,X⟩
 .rcases Y with _|⟨z,Y⟩
  .exact absurd rfl h0
  .have:=abh (m:=m) (n:=n) (i:=0) hb (.inl rfl) (.inl ⟨rfl,rfl⟩) (Il hb (.inl rfl) (.inr ⟨rfl,rfl,hn.resolve_right oe⟩) (b f (by simp at a|-;omega)).1 (b f (by simp at a|-;omega)).2 (ca_end (X:=[]) hb (.inr rfl)));rw[qa1,qb1]at this;exact this
 .rcases Y with _|⟨z,Y⟩
  .have:=Il (m:=m) (n:=n) (i:=0) hb (.inl rfl) (.inl ⟨rfl,rfl,hm.resolve_right oe⟩) (b (es:=[]) d (by simp at a|-;omega)).1 (b (es:=[]) d (by simp at a|-;omega)).2 (abh (Y:=[]) hb (.inr rfl) (.inr ⟨rfl,rfl⟩) (ca_end hb (.inr rfl)));rw[qa1,qb1]at this;rw[qc4];exact this
  .have:=Il (m:=m) (n:=n) (i:=0) hb (.inl rfl) (.inl ⟨rfl,rfl,hm.resolve_right oe⟩) (b (es:=[]) d (by simp at a|-;omega)).1 (b (es:=[]) d (by simp at a|-;omega)).2 (by
    have:=Il (es:=x::X) (m:=m) (n:=n) (i:=1) (X:=x::X) hb (.inr rfl) (.inr ⟨rfl,rfl,hn.resolve_right oe⟩) (b f (by simp at a|-;omega)).1 (b f (by simp at a|-;omega)).2 (ca_end hb (.inr rfl));rw[<-jx]at this;rw[qa1,qb1];exact this)
   exact this
omit hk in
def aa8(hm:m=c\/X=[])(hn:n=c\/Y=[])(A:jl X)(B:jl Y)(o:X.length+Y.length<=20000000):Hd ⟨f,[caR m n X Y],.of (.one (.d (.s c (X++Y))))⟩:=by
 have y:=acb (m:=m) (n:=n) hb o;have k:GrowAt g e c:=by rcases hb with⟨_,rfl,_,rfl,rfl,_⟩|⟨_,rfl,_,rfl,rfl,_⟩<;>first|exact .inl ⟨rfl,rfl,rfl⟩|exact .inr (.inl ⟨rfl,rfl,rfl⟩)
 have z:prog.funcs[f]?=some F:=by rcases hb with⟨rfl,_,rfl,_⟩|⟨rfl,_,rfl,_⟩<;>first|exact func216|exact func147
 by_cases t:X.length+Y.length=0
 .obtain rfl:X=[]:=jz od;obtain rfl:Y=[]:=jz od;have j:=Hz k;have r:some (AV.of nilA)=some (.of nilA)/\([]:List bd)=[]/\nilA.isS:=⟨rfl,rfl,rfl⟩;have C:caL F 1 (caN m n 0) 4 [((0,6),.of nilA)]:=by
   rcases hb with⟨_,_,rfl,_⟩|⟨_,_,rfl,_⟩<;>exact LG (pre2:=caN m n 1) [(33,nilA)] [] (LG (pre2:=caN m n 2) [(33,nilA)] [] (xQ (e:=3) [] [] al0) (al r al0)) (al r al0)
  have p:Hd ⟨f,[caR m n [] []],.of nilA⟩:=by
   refine Ce z [] [_,_] (by intro x a;rcases kl.1 a with rfl|a;exact y;rw[qv]at a;subst a;exact C) [⟨_,j⟩] (jX (wI (S:=ca1 m n [] [] 0 (iA 0)) (q:=kC F 0=kC F 0) rfl (ps:=[]) al0) (wI (S:=caN m n 0) (q:=kC F 1=kC F 1) rfl (ps:=[]) al0)) (h:=?_) (hb:=?_) (hn:=?_)
   all_goals rcases hb with⟨rfl,rfl,rfl,rfl,rfl,_⟩|⟨rfl,rfl,rfl,rfl,rfl,_⟩<;>kernel_rfl
  exact p.conv (λ_ _ _ h=>h) λok w v h=>gG (show fI ok w (.s 0 []) v from h) (by rcases hb with h|h<;>omega)
 .have j:=Hl k t o;have u:=aca hb hm hn A B o t;have⟨E,i⟩:∃E,E=X++Y:=⟨_,rfl⟩;have⟨l,b⟩:∃l,l=E.length:=⟨_,rfl⟩;rw[<-i,<-b]at u;rw[<-i];clear i A B hm hn k;refine Ce z [] [_,_] (by intro x a;rcases kl.1 a with rfl|a;exact y;rw[qv]at a;subst a;exact u) [⟨_,j⟩] (jX (jX (wI (S:=ca1 m n X Y 0 (iA 0)) (q:=kC F 0=kC F 0) rfl (ps:=[]) al0) (wI (S:=ca2 e c m n X Y 0 3000024 0 []) (q:=kC F 1=kC F 1) rfl (ps:=[]) al0)) (al b al0)) (h:=?_) (hb:=?_) (hn:=?_)
  all_goals rcases hb with⟨rfl,rfl,rfl,rfl,rfl,_⟩|⟨rfl,rfl,rfl,rfl,rfl,_⟩<;>kernel_rfl
end
def gV:GrowAt 188 29 7:=.inl ⟨rfl,rfl,rfl⟩
def gK:GrowAt 89 81 9:=.inr (.inr ⟨rfl,rfl,rfl⟩)
def Da{l r:ao}{m n:Nat}(hm:m=7\/l=[])(hn:n=7\/r=[])(a:l.length+r.length<=20000000):Hd ⟨216,[.one (.d (.s 1 [[.s m (vasD l)],[.s n (vasD r)]]))],.of (qi (l++r))⟩:=by have:=aa8 (.inl ⟨rfl,rfl,rfl,rfl,rfl,rfl⟩) (hm.imp_right (congrArg vasD)) (hn.imp_right (congrArg vasD)) (DC l) (DC r) (by rw[qY,qY];exact a);rw[show vasD l++vasD r=vasD (l++r) by simp[vasD_map]]at this;exact this
def lg{x y:aw}{m n:Nat}(hm:m=2\/x=[])(hn:n=2\/y=[])(a:x.length+y.length<=20000000):Hd ⟨147,[.one (.d (.s 1 [[.s m (tysD x)],[.s n (tysD y)]]))],.of (dZ (x++y))⟩:=by have:=aa8 (.inr ⟨rfl,rfl,rfl,rfl,rfl,rfl⟩) (hm.imp_right (congrArg tysD)) (hn.imp_right (congrArg tysD)) (KC x) (KC y) (by rw[eY,eY];exact a);rw[show tysD x++tysD y=tysD (x++y) by simp[tysD_map]]at this;exact this
