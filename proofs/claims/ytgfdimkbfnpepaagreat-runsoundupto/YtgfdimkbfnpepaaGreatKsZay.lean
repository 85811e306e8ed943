/- For every environment, tree, list of types, list of values and number whose reading holds at most 1048576 values and letters, RunSound returns true and leaves its arguments as they were. Condition: that bound on the reading. -/
import Derived.Test.YtgfdimkbfnpepaaGreatKsZax
import Derived.JoinedCond
namespace Go.Proofs.YtgfdimkbfnpepaaGreat
set_option linter.all false
open Go.Proofs.Tryz
set_option maxRecDepth 100000
set_option maxHeartbeats 4000000
open Go.ChangeShapes Go.WideShapes Go.ChangeAt Go.RowKit
variable {b0:Nat}{H:Type}{v:Value}{W:World}
def cells_env:prog.cellsOf 23=4:=oA
def Q4{enc:TypeId×Value->H}{r:Reach}{d:DataW H}{p:List MemPlace}(y:Value.okWide prog W r b0 23 v)(h:DataW.Trod enc prog W 0 (λ_=>true) true 23 v d p) :
 ∃en:En,v =.agg #[.i en.self,.i en.sender,.i en.amount,.i en.balance]:=by
 obtain⟨cs,rfl,x⟩:=okWide_struct underlying23 y;obtain⟨q,e⟩:=h;obtain⟨z,f,_,A,c,g,e⟩:=jc1 underlying23 e;rw[cells_env]at c;obtain⟨cs⟩:=cs;simp only[Value.cells]at c e
 match z,g,cs,c with
 | [F,G,I,J],_,[B,C,D,E],_ =>
  have s:=e 0 _ rfl;have t:=e 1 _ rfl;have u:=e 2 _ rfl;have w:=e 3 _ rfl;simp[cells_int]at s t u w;obtain⟨k,j,_⟩:=qg4 underlying3 s;obtain⟨n,l,_⟩:=qg4 underlying3 t;obtain⟨a,m,_⟩:=qg4 underlying3 u;obtain⟨b,o,_⟩:=qg4 underlying3 w;simp only[xj,and_true]at j l m o;subst j;subst l;subst m;subst o;exact⟨⟨k,n,a,b⟩,rfl⟩
def J4{enc:TypeId×Value->H}{r:Reach}{d:DataW H}{p:List MemPlace}(k:Value.okWide prog W r b0 27 v)(h:DataW.Trod enc prog W 0 (λ_=>true) true 27 v d p) :
 ∃(ts:List Ty) (a:Option Addr) (c:Nat) (V:Nat->Value),v =.slice a ts.length c/\ts.length<=c/\dw (λ_=>True) W ts a V/\tysizes ts<=Rows.uptoBulk d:=by
 obtain⟨a,l,c,rfl⟩:=okWide_slice underlying27 k;obtain⟨b,g⟩:=h;obtain⟨n,q,o,ts,V,e,⟨i,f⟩,j,m⟩:=D7 (v:=.slice a l c) g;simp only[ke]at e;obtain⟨rfl,rfl,rfl⟩:=e;subst i;exact⟨ts,a,c,V,rfl,f,j,m⟩
def J5{enc:TypeId×Value->H}{r:Reach}{d:DataW H}{p:List MemPlace}(S:Value.okWide prog W r b0 28 v)(h:DataW.Trod enc prog W 0 (λ_=>true) true 28 v d p) :
 ∃(l:List Va) (a:Option Addr) (c:Nat) (V:Nat->Value),v =.slice a l.length c/\l.length<=c/\aT (λ_=>True) W l a V/\vsizes l<=Rows.uptoBulk d:=by
 haveI:Inhabited Va:=⟨.mk 0 0 0 ⟨#[]⟩ [] [] []⟩
 obtain⟨a,l,c,rfl⟩:=okWide_slice underlying28 S;obtain⟨u,hf⟩:=h;have g4:DataW.trod enc prog W 0 (λ_=>true) true u 28 [.slice a l c]=some (d,p):=hf;rcases Go.Deep.open_slice underlying28 g4 with⟨o,x4⟩|⟨K,len,ad,m,nf,D,Pl,o,_,hl,hm,A,x4,z⟩
 .simp only[xj,and_true]at o;rw[o];exact⟨[],none,0,λ_=>.i 0,rfl,qv _,aT.nil _ _ _ _,by simp[vsizes]⟩
 .simp only[xj,and_true]at o;rw[o];simp only[zd]at x4;obtain⟨rfl,_⟩:=x4;simp only[if_true]at A;subst A;rw[cells_va]at z;obtain⟨q,J⟩:=Go.Deep.choose_lt (α:=Va×Value) (n:=len) (p:=λi x=>aA (λ_=>True) W x.1 x.2/\x.1.size<=Rows.uptoBulk (D i) /\
   ∃k n a s I al j F tl G B E C,x.2=bg k n a s I al j F tl G B E C/\W.cells? 0 (K.add (i*7)) 7=some [.i k,.i n,.i a,.string s,.slice I al j,.slice F tl G,.slice B E C]) (λi g=>by
   obtain⟨P,h1,h2⟩:=z i od;obtain⟨k,n,a,s,I,al,j,F,tl,G,B,E,C,t,rfl,hL,hs⟩:=J6 _ nf P (D i) (Pl i) (qv _) h2;exact⟨(t,bg k n a s I al j F tl G B E C),hL,hs,k,n,a,s,I,al,j,F,tl,G,B,E,C,rfl,h1⟩)
  have e:((List.range len).map λi=>(q i).1).length=len:=ot
  refine⟨(List.range len).map λi=>(q i).1,some K,m,λi=>(q i).2,by rw[e],by rw[e];omega,⟨by rw[e];omega,λi g=>?_,λi g=>?_⟩,?_⟩
  .rw[e]at g;obtain⟨_,_,k',n',a',s',L,N,M,Z,jJ,ab,T,X,U,S,R⟩:=J i g;obtain⟨_,_,b⟩:=qe5 R;obtain⟨O,Y,sp⟩:=K;have h0:sp=none:=by
    obtain⟨_,_,Q⟩:=J 0 od;obtain⟨_,_,_,_,_,_,_,_,_,_,_,_,_,_,y⟩:=Q;obtain⟨_,_,f⟩:=qe5 y;have:=f 0 od;simp[Addr.add]at this;exact jf0 this
   subst h0;have w:∀x,(⟨O,Y,none⟩:Addr).add x=⟨O,Y+x,none⟩:=λx=>oY
   rw[w]at b;refine⟨O,Y,rfl,trivial,k',n',a',s',L,N,M,Z,jJ,ab,T,X,U,S,?_,?_,?_,?_,?_,?_,?_⟩
   .have:=b 0 od;simpa[Addr.add]using this
   .have:=b 1 od;simpa[Addr.add]using this
   .have:=b 2 od;simpa[Addr.add]using this
   .have:=b 3 od;simpa[Addr.add]using this
   .have:=b 4 od;simpa[Addr.add]using this
   .have:=b 5 od;simpa[Addr.add]using this
   .have:=b 6 od;simpa[Addr.add]using this
  .rw[e]at g;simpa using (J i g).1
  .have ae:=sO (λi=>(q i).1) D len (λi g=>(J i g).2.1);simp only[Rows.uptoBulk];omega
end Go.Proofs.YtgfdimkbfnpepaaGreat
namespace Go.Proofs.YtgfdimkbfnpepaaGreat.runSound
set_option linter.all false
open Go.Proofs.Tryz
set_option maxRecDepth 100000
set_option maxHeartbeats 4000000
open Go.ChangeShapes Go.WideShapes Go.ChangeAt Go.RowKit
open Pe (fI gm dU iZ)
def own:ownKnob prog.godebug=none:=oA
def laidOut:laidOutB prog=true:=oA
def PY{w w':World}(h:w.grownBy w' none):Below w.heap.size w w':=⟨h.os,h.tape,h.output,h.size,λk a=>h.block k a ot⟩
def contract(H:Type)(enc:TypeId×Value->H)(W:World)(f:Nat)(args:Array Value)(ds S:List (DataW H))(c:List MemPlace)
 (hval:∀(j:Nat) t v,f3.params[j]?=some t->args[j]?=some v->Value.okWide prog W .any f t v)
 (hW:DataW.Whole enc prog f3.params.toList Rows.runSoundSpec.vars false W args.toList ds S c) (hk:Rows.uptoSmall H (ds++S)=true) :
 Calls prog 3 args W λe P=>∃v,e =.returned v/\Rows.runSoundSpec.post enc prog f3 false true false false W args v P:=by
 have a:=hW;obtain⟨p,q,hA0,hV,rfl,aj,ao⟩:=hW;have Z:DataW.TrodAll enc prog W 0 (λ_=>true) true f3.params.toList args.toList ds p:=hA0;rw[params3]at Z hval;obtain⟨v0,au,d0,aa,p0,q0,F,rfl,rfl,T,r0⟩:=trodAll_cons Z;obtain⟨O,ax,d1,ab,p1,q1,z,rfl,rfl,U,r1⟩:=trodAll_cons r0;obtain⟨v2,ay,d2,ad,p2,q2,A,rfl,rfl,V,r2⟩:=trodAll_cons r1;obtain⟨v3,az,d3,ah,p3,q3,B,rfl,rfl,X,r3⟩:=trodAll_cons r2;obtain⟨v4,aE,d4,ai,p4,q4,C,rfl,rfl,Y,r4⟩:=trodAll_cons r3;obtain⟨rfl,rfl,rfl⟩:=trodAll_nil r4;obtain rfl:args=#[v0,O,v2,v3,v4]:=by cases args;simp_all
 obtain⟨rfl,rfl⟩:=trodVars_none hV;have hb:=ja5 hk;simp only[qe3,Rows.uptoBulkAll]at hb;obtain⟨Q,rfl⟩:=Q4 (hval 0 23 v0 rfl rfl) T;obtain⟨n,hL,hs⟩:=Q3 (hval 1 26 O rfl rfl) U;obtain⟨s,sa,sc,VS,rfl,M,E,aq⟩:=J4 (hval 2 27 v2 rfl rfl) V;obtain⟨l,la,lc,VL,rfl,I,g,an⟩:=J5 (hval 3 28 v3 rfl rfl) X;obtain⟨D,rfl⟩:=okWide_int underlying3 (hval 4 3 v4 rfl rfl);have G:bD D:=by obtain⟨R,hf⟩:=Y;obtain⟨m,e,_,hw⟩:=qg4 underlying3 hf;simp[Value.cells]at e;subst e;exact l9 hw
 clear hA0;simp only[qe3]at a;have k:∀x∈p0,x.block<W.heap.size:=λx b=>a.lt x (by simp[b]);have o:∀x∈p1,x.block<W.heap.size:=λx b=>a.lt x (by simp[b]);have r:∀x∈p2,x.block<W.heap.size:=λx b=>a.lt x (by simp[b]);have u:∀x∈p3,x.block<W.heap.size:=λx b=>a.lt x (by simp[b]);have w:∀x∈p4,x.block<W.heap.size:=λx b=>a.lt x (by simp[b]);obtain⟨L,K⟩:=LH (hL.ae (ok':=λ_=>True) λ_ _ _=>trivial);obtain⟨y,N⟩:=qV E M;have J:=yu g I;have i:=U6 g;have ar:s.length<=tysizes s/\l.length<=vsizes l:=⟨tlength_le s,kS l⟩;have hH:=(Tg (en:=Q) (n:=n) (s:=s) (l:=l) (aC:=D) L od y od i od (λx b=>by have:=fO b;omega) G).runN rfl (λ_=>True) W [_,O,_,_,_] ⟨Xd _ _ _,K,N,J,.v _,trivial⟩;refine hH.mono λe P ⟨G,v,he,hv⟩=>?_;obtain rfl:=Pe.bW hv;subst he;have d:=PY G;exact⟨_,rfl,_,_,_,[],p0++(p1++(p2++(p3++(p4++[])))),[],a,jf6 (shut_bool underlying4 _) trodAll_mk0,jf6 (Below.trod laidOut oA (ja5 oA) T d k) (jf6 (Below.trod laidOut oA (ja5 oA) U d o) (jf6 (Below.trod laidOut oA (ja5 oA) V d r) (jf6 (Below.trod laidOut oA (ja5 oA) X d u) (jf6 (Below.trod laidOut oA (ja5 oA) Y d w) trodAll_mk0)))),rfl,d.frame _,λh=>by cases h⟩
def lifted(f:Os)(a:f.Started)(H:Type)(enc:TypeId×Value->H)(F:Stop.Interp) :
 ReturnsInHanded {} checked f 3 .any ((Rows.OpenSpec.upto Rows.runSoundSpec).pre6 enc prog f3 Rows.runSoundUptoRow.domain false) (((Rows.OpenSpec.upto Rows.runSoundSpec).at F).post enc prog f3 false true false false):=by
 refine returnsInHanded_of_cond (C:=checked) (s:=Rows.OpenSpec.upto Rows.runSoundSpec) (k:=Rows.uptoSmall) rfl own a oA func3
  (OpenSpec.witness (enc:=enc) (C:=checked) (s:=Rows.OpenSpec.upto Rows.runSoundSpec) (k:=Rows.uptoSmall) rfl false ⟨#[],#[.agg #[.i 0,.i 0,.i 0,.i 0],.agg #[.i 0,.i 0,.i 0,.string .empty,.n0],.n0,.n0,.i 0],[]⟩ 8 oA oA oA
   (x:=([.agg [.lit (.int .i64 0),.lit (.int .i64 0),.lit (.int .i64 0),.lit (.int .i64 0)],.agg [.lit (.int .i64 0),.lit (.int .i64 0),.lit (.int .i64 0),.lit (.string []),.nil],.nil,.nil,.lit (.int .i64 0)],[],[])) oA rfl oA) ?_
 intro W d c g h b e j _ l _;exact contract H enc W d c g h b e j l
def over:Rows.runSoundUptoRow.holds Tryz.pinned (Rows.OpenSpec.upto Rows.runSoundSpec) :=
 OpenClaim.holds_of_cond 3 f3 rfl rfl rfl rfl rfl rfl rfl ⟨rfl,rfl,rfl,rfl,rfl⟩ rfl rfl rfl rfl rfl oA func3 oA
  (ja5 oA) (by unfold Func.isWrapper;first|(rw[if_pos Ks];kernel_rfl)|(rw[if_neg Ks];exact⟨rfl,rfl⟩))
  (λc a H b _ F=>lifted c a H b F)
end Go.Proofs.YtgfdimkbfnpepaaGreat.runSound
namespace Go.Proofs.YtgfdimkbfnpepaaGreat
set_option linter.all false
open Go.Proofs.Tryz
set_option maxRecDepth 100000
set_option maxHeartbeats 4000000
theorem runSound_holds:Rows.RunSoundUptoSaid:=runSound.over
#print axioms runSound_holds
