/- For every environment, tree, list of types, list of values and two numbers whose reading holds at most 1048576 values and letters, RunMore returns true and leaves its arguments as they were. Condition: that bound on the reading. -/
import Derived.Deep.Slices
import Derived.Lib.SmallJoins
import Derived.Test.YtgfdimkbfnpepaaGreatKmZax
import Derived.JoinedCond
namespace Go.Proofs.YtgfdimkbfnpepaaGreat
set_option linter.all false
open Go.Proofs.Tryz
set_option maxRecDepth 100000
set_option maxHeartbeats 4000000
open Go.ChangeShapes Go.WideShapes Go.ChangeAt Go.RowKit
variable {n:Int}{b0 fuel:Nat}{ok:Nat->Prop}{H:Type}{v:Value}{W w:World}
def cells_ty:prog.cellsOf 54=2:=oA
def cells_int:prog.cellsOf 3=1:=oA
def cells_tys:prog.cellsOf 27=1:=oA
def Lx(h:(Lit.int .i64 n).wf=true):bD n:=by simpa[Lit.wf,IntKind.min,IntKind.max,IntKind.signed,IntKind.bits,bD]using h
def yO: ∀(l:List (DataW H)) (x:DataW H),Rows.uptoBulkAll (l++[x])=Rows.uptoBulkAll l+Rows.uptoBulk x:=by
 intro l x
 induction l with
 | nil=>simp[Rows.uptoBulkAll]
 | cons y l a=>simp[Rows.uptoBulkAll,a];omega
def qh(T:Nat->Ty)(D:Nat->DataW H):∀(n:Nat),(∀i,i<n->(T i).size<=Rows.uptoBulk (D i))->tysizes ((List.range n).map T)<=Rows.uptoBulkAll ((List.range n).map D)
 | 0,_=>by simp[tysizes,Rows.uptoBulkAll]
 | n+1,h=>by have c:=qh T D n (λi a=>h i od);have b:=h n od;rw[jg1,qc2,qc2,pg,qg3,qg3,yO];simp only[tysizes];omega
def Jh(D:Nat->DataW H)(n i:Nat)(h:i<n):Rows.uptoBulk (D i)<=Rows.uptoBulkAll ((List.range n).map D):=by
 induction n with
 | zero=>omega
 | succ n b =>
  rw[jg1,qc2,qg3,yO]
  by_cases a:i=n
  .subst a;omega
  .have:=b od;omega
def JM{t:Int}{c:Nat}(a:bD t):aH ok w (.nd t []) (bY t none 0 c):=aH.of (V:=λ_=>.i 0) a (dw.nil _ _ _ _) (kB _)
def NW{enc:TypeId×Value->H}(N:Nat):∀(fuel:Nat) (cs:List Value) (d:DataW H) (ps:List MemPlace),Rows.uptoBulk d<=N->DataW.trod enc prog W 0 (λ_=>true) true fuel 54 cs=some (d,ps) ->
 ∃k a l c t,cs=[.i k,.slice a l c]/\aH (λ_=>True) W t (bY k a l c)/\t.size<=Rows.uptoBulk d:=by
 haveI:Inhabited Ty:=⟨.nd 0 []⟩
 induction N with
 | zero =>
  intro fuel cs d ps hN h;obtain⟨S,n,_,C,_⟩:=jc1 underlying54 h;simp only[zd]at C;rw[C.1]at hN;simp[Rows.uptoBulk]at hN
 | succ N ih =>
  intro fuel cs d ps hN h;obtain⟨S,f,_,C,s,K,P⟩:=jc1 underlying54 h;rw[cells_ty]at s
  match S,K,cs,s with
  | [y0,y1],_,[v0,v1],_ =>
   have M:=P 0 _ rfl;have O:=P 1 _ rfl;simp[cells_int,cells_tys]at M O;obtain⟨k,L,x0,Q⟩:=qf5 underlying3 M;simp only[xj,and_true]at L;subst L;subst x0;simp only[zd]at C;obtain⟨rfl,_⟩:=C;rcases Go.Deep.open_slice underlying27 O with⟨v,R⟩|⟨a,len,V,m,nf,D,T,v,_,hl,hm,B,R,A⟩
   .simp only[xj,and_true]at v;subst v;refine⟨k,none,0,0,.nd k [],rfl,JM (Lx Q),?_⟩;simp[Ty.size,tysizes,Rows.uptoBulk]
   .simp only[xj,and_true]at v;subst v;subst R;simp only[if_true]at B;subst B;rw[cells_ty]at A;simp only[qb7,jb5,Rows.uptoBulk,Rows.uptoBulkAll]at hN|-;have I:∀i,i<len->Rows.uptoBulk (D i)<=N:=λi j=>by have:=Jh D len i j;omega
    obtain⟨q,F⟩:=Go.Deep.choose_lt (α:=Ty×Value) (n:=len) (p:=λi x=>aH (λ_=>True) W x.1 x.2/\x.1.size<=Rows.uptoBulk (D i) /\
     ∃k u l c,x.2=bY k u l c/\W.cells? 0 (a.add (i*2)) 2=some [.i k,.slice u l c]) (λi j=>by
     obtain⟨G,Y,Z⟩:=A i od;obtain⟨k,u,l,c,t,rfl,E,hs⟩:=ih nf G (D i) (T i) (I i j) Z;exact⟨(t,bY k u l c),E,hs,k,u,l,c,rfl,Y⟩)
    have e:((List.range len).map λi=>(q i).1).length=len:=ot
    have E:=aH.mk (ok:=λ_=>True) (w:=W) (t:=k) (args:=(List.range len).map λi=>(q i).1) (a:=some a) (c:=m) (λi=>(q i).2) (by rw[e];omega) (by rw[e];omega) (Lx Q)
     (λi j=>by
      rw[e]at j;obtain⟨_,_,k',u,l',U,hv,J⟩:=F i j;obtain⟨_,_,g⟩:=qe5 J;obtain⟨b,o,sp⟩:=a;have X:sp=none:=by obtain⟨_,_,k0,a0,l0,c0,_,z⟩:=F 0 od;obtain⟨_,_,r⟩:=qe5 z;have:=r 0 od;simp[Addr.add]at this;exact jf1 this
      subst X;have y:∀x,(⟨b,o,none⟩:Addr).add x=⟨b,o+x,none⟩:=λx=>oY
      rw[y]at g;refine⟨b,o,rfl,trivial,k',u,l',U,hv,?_,?_⟩
      .have:=g 0 od;simpa[Addr.add]using this
      .have:=g 1 od;simpa[Addr.add]using this)
     (λi j=>by rw[e]at j;simpa using (F i j).1)
    rw[e]at E;refine⟨k,some a,len,m,_,rfl,E,?_⟩;have aa:=qh (λi=>(q i).1) D len (λi j=>(F i j).2.1);rw[Ty.size];omega
def cells24:prog.cellsOf 26=5:=oA
def cells3:prog.cellsOf 3=1:=oA
def cells9:prog.cellsOf 9=1:=oA
def cells22:prog.cellsOf 24=1:=oA
def l9(h:(Lit.int .i64 n).wf=true):bD n:=by simpa[Lit.wf,IntKind.min,IntKind.max,IntKind.signed,IntKind.bits,bD]using h
def uM(T:Nat->Tr)(D:Nat->DataW H):∀(n:Nat),(∀i,i<n->(T i).size<=Rows.uptoBulk (D i))->sizes ((List.range n).map T)<=Rows.uptoBulkAll ((List.range n).map D)
 | 0,_=>by simp[sizes,Rows.uptoBulkAll]
 | n+1,h=>by
  have d:=uM T D n (λi b=>h i od);have c:=h n od;have e:∀(l:List (DataW H)) (x:DataW H),Rows.uptoBulkAll (l++[x])=Rows.uptoBulkAll l+Rows.uptoBulk x:=by
   intro l x
   induction l with
   | nil=>simp[Rows.uptoBulkAll]
   | cons y l a=>simp[Rows.uptoBulkAll,a];omega
  rw[jg1,qc2,qc2,sK,qg3,qg3,e];simp only[sizes];omega
def Dg(D:Nat->DataW H)(n i:Nat)(h:i<n):Rows.uptoBulk (D i)<=Rows.uptoBulkAll ((List.range n).map D):=by
 induction n with
 | zero=>omega
 | succ n c =>
  have e:∀(l:List (DataW H)) (x:DataW H),Rows.uptoBulkAll (l++[x])=Rows.uptoBulkAll l+Rows.uptoBulk x:=by
   intro l x
   induction l with
   | nil=>simp[Rows.uptoBulkAll]
   | cons y l a=>simp[Rows.uptoBulkAll,a];omega
  rw[jg1,qc2,qg3,e]
  by_cases b:i=n
  .subst b;omega
  .have:=c od;omega
def JN{k p:Int}{s:ByteArray}(d:s.size<=maxLen)(hk:bD k)(b:bD n)(c:bD p):bI ok w (.nd k n p s []) (af k n p s none 0 0) :=
 bI.mk (hk:=kB _) (args:=[]) (λ_=>.i 0) ot d hk b c (λi a=>by simp at a) (λi a=>by simp at a)
def D6{enc:TypeId×Value->H}(N:Nat):∀(fuel:Nat) (cs:List Value) (d:DataW H) (ps:List MemPlace),Rows.uptoBulk d<=N->DataW.trod enc prog W 0 (λ_=>true) true fuel 26 cs=some (d,ps) ->
 ∃k n p s a l c t,cs=[.i k,.i n,.i p,.string s,.slice a l c]/\bI (λ_=>True) W t (af k n p s a l c)/\t.size<=Rows.uptoBulk d:=by
 haveI:Inhabited Tr:=⟨.nd 0 0 0 ⟨#[]⟩ []⟩
 induction N with
 | zero =>
  intro fuel cs d ps hN h;obtain⟨xs,n,_,F,_⟩:=jc1 underlying26 h;simp only[zd]at F;rw[F.1]at hN;simp[Rows.uptoBulk]at hN
 | succ N ih =>
  intro fuel cs d ps hN h;obtain⟨xs,f,_,F,u,M,C⟩:=jc1 underlying26 h;rw[cells24]at u
  match xs,M,cs,u with
  | [y0,y1,y2,y3,y4],_,[v0,v1,v2,v3,v4],_ =>
   have S:=C 0 _ rfl;have T:=C 1 _ rfl;have U:=C 2 _ rfl;have V:=C 3 _ rfl;have X:=C 4 _ rfl;simp[cells3,cells9,cells22]at S T U V X;obtain⟨k,O,x0,Y⟩:=qf5 underlying3 S;obtain⟨n,P,x1,Z⟩:=qf5 underlying3 T;obtain⟨p,Q,x2,i2⟩:=qf5 underlying3 U;obtain⟨s,R,x3,i3⟩:=DataW.trod_string underlying9 V;simp only[xj,and_true]at O P Q R;subst O;subst P;subst Q;subst R;subst x0;subst x1;subst x2;subst x3;simp only[zd]at F;obtain⟨rfl,_⟩:=F;rcases Go.Deep.open_slice underlying24 X with⟨y,x4⟩|⟨a,len,aa,m,nf,D,Pl,y,_,hl,hm,E,x4,B⟩
   .simp only[xj,and_true]at y;subst y;refine⟨k,n,p,s,none,0,0,.nd k n p s [],rfl,JN i3 (l9 Y) (l9 Z) (l9 i2),?_⟩;simp[Tr.size,sizes,Rows.uptoBulk]
   .simp only[xj,and_true]at y;subst y;subst x4;simp only[if_true]at E;subst E;rw[cells24]at B;simp only[qb7,jb5,Rows.uptoBulk,Rows.uptoBulkAll]at hN|-;have K:∀i,i<len->Rows.uptoBulk (D i)<=N:=λi j=>by have:=Dg D len i j;omega
    obtain⟨q,I⟩:=Go.Deep.choose_lt (α:=Tr×Value) (n:=len) (p:=λi x=>bI (λ_=>True) W x.1 x.2/\x.1.size<=Rows.uptoBulk (D i) /\
     ∃k n p s v l c,x.2=af k n p s v l c/\W.cells? 0 (a.add (i*5)) 5=some [.i k,.i n,.i p,.string s,.slice v l c]) (λi j=>by
     obtain⟨J,h1,h2⟩:=B i od;obtain⟨k,n,p,s,v,l,c,t,rfl,G,hs⟩:=ih nf J (D i) (Pl i) (K i j) h2;exact⟨(t,af k n p s v l c),G,hs,k,n,p,s,v,l,c,rfl,h1⟩)
    have g:((List.range len).map λi=>(q i).1).length=len:=ot
    have G:=bI.mk (hk:=by rw[g];omega) (ok:=λ_=>True) (w:=W) (k:=k) (n:=n) (p:=p) (s:=s) (args:=(List.range len).map λi=>(q i).1) (a:=some a) (c:=m) (λi=>(q i).2) (by rw[g];omega) i3 (l9 Y) (l9 Z) (l9 i2)
     (λi j=>by
      rw[g]at j;obtain⟨_,_,k',n',p',s',v,l',c',hv,L⟩:=I i j;obtain⟨_,_,e⟩:=qe5 L;obtain⟨b,o,sp⟩:=a;have h0:sp=none:=by obtain⟨_,_,k0,n0,p0,s0,a0,l0,c0,_,A⟩:=I 0 od;obtain⟨_,_,r⟩:=qe5 A;have:=r 0 od;simp[Addr.add]at this;exact jf1 this
      subst h0;have z:∀x,(⟨b,o,none⟩:Addr).add x=⟨b,o+x,none⟩:=λx=>oY
      rw[z]at e;refine⟨b,o,rfl,trivial,k',n',p',s',v,l',c',hv,?_,?_,?_,?_,?_⟩
      .have:=e 0 od;simpa[Addr.add]using this
      .have:=e 1 od;simpa[Addr.add]using this
      .have:=e 2 od;simpa[Addr.add]using this
      .have:=e 3 od;simpa[Addr.add]using this
      .have:=e 4 od;simpa[Addr.add]using this)
     (λi j=>by rw[g]at j;simpa using (I i j).1)
    rw[g]at G;refine⟨k,n,p,s,some a,len,m,_,rfl,G,?_⟩;have ab:=uM (λi=>(q i).1) D len (λi j=>(I i j).2.1);rw[Tr.size];omega
def Q3{enc:TypeId×Value->H}{r:Reach}{d:DataW H}{p:List MemPlace}(w:Value.okWide prog W r b0 26 v)(h:DataW.Trod enc prog W 0 (λ_=>true) true 26 v d p) :
 ∃t,bI (· < W.heap.size) W t v/\t.size<=Rows.uptoBulk d:=by
 obtain⟨cs,rfl,u⟩:=okWide_struct underlying26 w;obtain⟨fuel,m⟩:=h;obtain⟨k,n,q,s,a,l,c,t,e,g,o⟩:=D6 _ fuel _ d p (qv _) m;have f:cs=#[.i k,.i n,.i q,.string s,.slice a l c]:=by
  have : cs.toList=[.i k,.i n,.i q,.string s,.slice a l c]:=by simpa[Value.cells]using e
  apply Array.ext';rw[this]
 subst f;exact⟨t,g.ae (λb j _=>j),o⟩
def cells_va:prog.cellsOf 36=7:=oA
def cells_vas:prog.cellsOf 28=1:=oA
def D7{enc:TypeId×Value->H}{d:DataW H}{ps:List MemPlace}(h:DataW.trod enc prog W 0 (λ_=>true) true fuel 27 [v]=some (d,ps)) :
 ∃a l c ts V,v =.slice a l c/\(ts.length=l/\l<=c)/\dw (λ_=>True) W ts a V/\tysizes ts<=Rows.uptoBulk d:=by
 haveI:Inhabited Ty:=⟨.nd 0 []⟩
 rcases Go.Deep.open_slice underlying27 h with⟨o,F⟩|⟨a,len,I,m,Q,D,G,o,_,S,T,w,F,u⟩
 .simp only[xj,and_true]at o;subst o;exact⟨none,0,0,[],λ_=>.i 0,rfl,⟨rfl,qv _⟩,dw.nil _ _ _ _,by simp[tysizes]⟩
 .simp only[xj,and_true]at o;simp only[zd]at F;subst o;obtain⟨rfl,_⟩:=F;simp only[if_true]at w;subst w;rw[cells_ty]at u;obtain⟨q,y⟩:=Go.Deep.choose_lt (α:=Ty×Value) (n:=len) (p:=λi x=>aH (λ_=>True) W x.1 x.2/\x.1.size<=Rows.uptoBulk (D i) /\
   ∃k j l c,x.2=bY k j l c/\W.cells? 0 (a.add (i*2)) 2=some [.i k,.slice j l c]) (λi g=>by
   obtain⟨A,K,L⟩:=u i od;obtain⟨k,j,l,c,t,rfl,M,N⟩:=NW _ Q A (D i) (G i) (qv _) L;exact⟨(t,bY k j l c),M,N,k,j,l,c,rfl,K⟩)
  have b:((List.range len).map λi=>(q i).1).length=len:=ot
  refine⟨some a,len,m,(List.range len).map λi=>(q i).1,λi=>(q i).2,rfl,⟨b,od⟩,⟨by rw[b];omega,λi g=>?_,λi g=>?_⟩,?_⟩
  .rw[b]at g;obtain⟨_,_,k,j,l,c,P,C⟩:=y i g;obtain⟨_,_,e⟩:=qe5 C;obtain⟨z,E,R⟩:=a;have J:R=none:=by
    obtain⟨_,_,B⟩:=y 0 od;obtain⟨_,_,_,_,_,s⟩:=B;obtain⟨_,_,f⟩:=qe5 s;have:=f 0 od;simp[Addr.add]at this;exact jf1 this
   subst J;have r:∀x,(⟨z,E,none⟩:Addr).add x=⟨z,E+x,none⟩:=λx=>oY
   rw[r]at e;refine⟨z,E,rfl,trivial,k,j,l,c,P,?_,?_⟩
   .have:=e 0 od;simpa[Addr.add]using this
   .have:=e 1 od;simpa[Addr.add]using this
  .rw[b]at g;simpa using (y i g).1
  .have O:=qh (λi=>(q i).1) D len (λi g=>(y i g).2.1);simp only[Rows.uptoBulk];omega
def NV{enc:TypeId×Value->H}{d:DataW H}{ps:List MemPlace}(h:DataW.trod enc prog W 0 (λ_=>true) true fuel 24 [v]=some (d,ps)) :
 ∃a l c ts V,v =.slice a l c/\(ts.length=l/\l<=c)/\cK (λ_=>True) W ts a V/\sizes ts<=Rows.uptoBulk d:=by
 haveI:Inhabited Tr:=⟨.nd 0 0 0 ⟨#[]⟩ []⟩
 rcases Go.Deep.open_slice underlying24 h with⟨o,G⟩|⟨a,len,J,m,R,D,I,o,_,T,U,y,G,w⟩
 .simp only[xj,and_true]at o;subst o;exact⟨none,0,0,[],λ_=>.i 0,rfl,⟨rfl,qv _⟩,cK.nil _ _ _ _,by simp[sizes]⟩
 .simp only[xj,and_true]at o;simp only[zd]at G;subst o;obtain⟨rfl,_⟩:=G;simp only[if_true]at y;subst y;rw[cells24]at w;obtain⟨q,z⟩:=Go.Deep.choose_lt (α:=Tr×Value) (n:=len) (p:=λi x=>bI (λ_=>True) W x.1 x.2/\x.1.size<=Rows.uptoBulk (D i) /\
   ∃k n p s j l c,x.2=af k n p s j l c/\W.cells? 0 (a.add (i*5)) 5=some [.i k,.i n,.i p,.string s,.slice j l c]) (λi g=>by
   obtain⟨B,L,M⟩:=w i od;obtain⟨k,n,p,s,j,l,c,t,rfl,N,O⟩:=D6 _ R B (D i) (I i) (qv _) M;exact⟨(t,af k n p s j l c),N,O,k,n,p,s,j,l,c,rfl,L⟩)
  have e:((List.range len).map λi=>(q i).1).length=len:=ot
  refine⟨some a,len,m,(List.range len).map λi=>(q i).1,λi=>(q i).2,rfl,⟨e,od⟩,⟨by rw[e];omega,λi g=>?_,λi g=>?_⟩,?_⟩
  .rw[e]at g;obtain⟨_,_,k,n,p,s,j,l,c,Q,E⟩:=z i g;obtain⟨_,_,b⟩:=qe5 E;obtain⟨A,F,S⟩:=a;have K:S=none:=by
    obtain⟨_,_,C⟩:=z 0 od;obtain⟨_,_,_,_,_,_,_,_,u⟩:=C;obtain⟨_,_,f⟩:=qe5 u;have:=f 0 od;simp[Addr.add]at this;exact jf1 this
   subst K;have r:∀x,(⟨A,F,none⟩:Addr).add x=⟨A,F+x,none⟩:=λx=>oY
   rw[r]at b;refine⟨A,F,rfl,trivial,k,n,p,s,j,l,c,Q,?_,?_,?_,?_,?_⟩
   .have:=b 0 od;simpa[Addr.add]using this
   .have:=b 1 od;simpa[Addr.add]using this
   .have:=b 2 od;simpa[Addr.add]using this
   .have:=b 3 od;simpa[Addr.add]using this
   .have:=b 4 od;simpa[Addr.add]using this
  .rw[e]at g;simpa using (z i g).1
  .have P:=uM (λi=>(q i).1) D len (λi g=>(z i g).2.1);simp only[Rows.uptoBulk];omega
def sO(T:Nat->Va)(D:Nat->DataW H):∀(n:Nat),(∀i,i<n->(T i).size<=Rows.uptoBulk (D i))->vsizes ((List.range n).map T)<=Rows.uptoBulkAll ((List.range n).map D)
 | 0,_=>by simp[vsizes,Rows.uptoBulkAll]
 | n+1,h=>by have c:=sO T D n (λi a=>h i od);have b:=h n od;rw[jg1,qc2,qc2,kK,qg3,qg3,yO];simp only[vsizes];omega
def J6{enc:TypeId×Value->H}(N:Nat):∀(fuel:Nat) (cs:List Value) (d:DataW H) (ps:List MemPlace),Rows.uptoBulk d<=N->DataW.trod enc prog W 0 (λ_=>true) true fuel 36 cs=some (d,ps) ->
 ∃k n a s o al ac ta tl tc na j nc t,cs=[.i k,.i n,.i a,.string s,.slice o al ac,.slice ta tl tc,.slice na j nc]/\aA (λ_=>True) W t (bg k n a s o al ac ta tl tc na j nc)/\t.size<=Rows.uptoBulk d:=by
 haveI:Inhabited Va:=⟨.mk 0 0 0 ⟨#[]⟩ [] [] []⟩
 induction N with
 | zero =>
  intro fuel cs d ps hN h;obtain⟨xs,n,_,C,_⟩:=jc1 underlying36 h;simp only[zd]at C;rw[C.1]at hN;simp[Rows.uptoBulk]at hN
 | succ N ih =>
  intro fuel cs d ps hN h;obtain⟨xs,f,_,C,l,X,r⟩:=jc1 underlying36 h;rw[cells_va]at l
  match xs,X,cs,l with
  | [y0,y1,y2,y3,y4,y5,y6],_,[v0,v1,v2,v3,v4,v5,v6],_ =>
   have g0:=r 0 _ rfl;have g1:=r 1 _ rfl;have g2:=r 2 _ rfl;have g3:=r 3 _ rfl;have g4:=r 4 _ rfl;have g5:=r 5 _ rfl;have g6:=r 6 _ rfl;simp[cells3,cells9,cells_vas,cells_tys,cells22]at g0 g1 g2 g3 g4 g5 g6;obtain⟨k,e0,x0,i0⟩:=qf5 underlying3 g0;obtain⟨n,e1,x1,i1⟩:=qf5 underlying3 g1;obtain⟨a,e2,x2,i2⟩:=qf5 underlying3 g2;obtain⟨s,e3,x3,i3⟩:=DataW.trod_string underlying9 g3;simp only[xj,and_true]at e0 e1 e2 e3;subst e0;subst e1;subst e2;subst e3;subst x0;subst x1;subst x2;subst x3;obtain⟨ta,tl,tc,types,VT,rfl,⟨U,an⟩,w,T⟩:=D7 g5;obtain⟨na,j,nc,code,VN,rfl,⟨R,ai⟩,v,S⟩:=NV g6;subst U;subst R;simp only[zd]at C;obtain⟨rfl,_⟩:=C;rcases Go.Deep.open_slice underlying28 g4 with⟨u,x4⟩|⟨o,len,ah,m,nf,D,Pl,u,_,hl,hm,B,x4,A⟩
   .simp only[xj,and_true]at u;subst u;refine⟨k,n,a,s,none,0,0,ta,types.length,tc,na,code.length,nc,.mk k n a s [] types code,rfl,aA.of (args:=[]) (V:=λ_=>.i 0) (kB _) i3 (l9 i0) (l9 i1) (l9 i2) (aT.nil _ _ _ _) w v ⟨oS,oS⟩,?_⟩;simp[Va.size,vsizes,Rows.uptoBulk,Rows.uptoBulkAll]at T S|-;omega
   .simp only[xj,and_true]at u;subst u;subst x4;simp only[if_true]at B;subst B;rw[cells_va]at A;simp only[qb7,jb5,Rows.uptoBulk,Rows.uptoBulkAll]at hN|-;have P:∀i,i<len->Rows.uptoBulk (D i)<=N:=λi e=>by have:=Dg D len i e;omega
    obtain⟨q,G⟩:=Go.Deep.choose_lt (α:=Va×Value) (n:=len) (p:=λi x=>aA (λ_=>True) W x.1 x.2/\x.1.size<=Rows.uptoBulk (D i) /\
     ∃k n a s E al ac ta tl tc na j nc,x.2=bg k n a s E al ac ta tl tc na j nc/\W.cells? 0 (o.add (i*7)) 7=some [.i k,.i n,.i a,.string s,.slice E al ac,.slice ta tl tc,.slice na j nc]) (λi e=>by
     obtain⟨M,h1,h2⟩:=A i od;obtain⟨k,n,a,s,E,al,ac,ta,tl,tc,na,j,nc,t,rfl,F,hs⟩:=ih nf M (D i) (Pl i) (P i e) h2;exact⟨(t,bg k n a s E al ac ta tl tc na j nc),F,hs,k,n,a,s,E,al,ac,ta,tl,tc,na,j,nc,rfl,h1⟩)
    have c:((List.range len).map λi=>(q i).1).length=len:=ot
    have hV:aT (λ_=>True) W ((List.range len).map λi=>(q i).1) (some o) (λi=>(q i).2):=by
     refine⟨by rw[c];omega,λi e=>?_,λi e=>?_⟩
     .rw[c]at e;obtain⟨_,_,k',n',a',s',I,K,J,ad,jJ,ae,Y,ab,Z,hv,Q⟩:=G i e;obtain⟨_,_,b⟩:=qe5 Q;obtain⟨L,oo,sp⟩:=o;have h0:sp=none:=by
       obtain⟨_,_,O⟩:=G 0 od;obtain⟨_,_,_,_,_,_,_,_,_,_,_,_,_,_,z⟩:=O;obtain⟨_,_,g⟩:=qe5 z;have:=g 0 od;simp[Addr.add]at this;exact jf1 this
      subst h0;have y:∀x,(⟨L,oo,none⟩:Addr).add x=⟨L,oo+x,none⟩:=λx=>oY
      rw[y]at b;refine⟨L,oo,rfl,trivial,k',n',a',s',I,K,J,ad,jJ,ae,Y,ab,Z,hv,?_,?_,?_,?_,?_,?_,?_⟩
      .have:=b 0 od;simpa[Addr.add]using this
      .have:=b 1 od;simpa[Addr.add]using this
      .have:=b 2 od;simpa[Addr.add]using this
      .have:=b 3 od;simpa[Addr.add]using this
      .have:=b 4 od;simpa[Addr.add]using this
      .have:=b 5 od;simpa[Addr.add]using this
      .have:=b 6 od;simpa[Addr.add]using this
     .rw[c]at e;simpa using (G i e).1
    have F:=aA.of (k:=k) (n:=n) (a:=a) (s:=s) (ac:=m) (tc:=tc) (nc:=nc) (by rw[c];omega) i3 (l9 i0) (l9 i1) (l9 i2) hV w v ⟨oS,oS⟩;rw[c]at F;refine⟨k,n,a,s,some o,len,m,ta,types.length,tc,na,code.length,nc,_,rfl,F,?_⟩;have aj:=sO (λi=>(q i).1) D len (λi e=>(G i e).2.1);rw[Va.size];omega
def cells_env:prog.cellsOf 23=4:=oA
def Q4{enc:TypeId×Value->H}{r:Reach}{d:DataW H}{p:List MemPlace}(x:Value.okWide prog W r b0 23 v)(h:DataW.Trod enc prog W 0 (λ_=>true) true 23 v d p) :
 ∃en:En,v =.agg #[.i en.self,.i en.sender,.i en.amount,.i en.balance]:=by
 obtain⟨cs,rfl,w⟩:=okWide_struct underlying23 x;obtain⟨fuel,e⟩:=h;obtain⟨y,f,_,z,c,g,e⟩:=jc1 underlying23 e;rw[cells_env]at c;obtain⟨cs⟩:=cs;simp only[Value.cells]at c e
 match y,g,cs,c with
 | [E,F,G,I],_,[A,B,C,D],_ =>
  have q:=e 0 _ rfl;have s:=e 1 _ rfl;have t:=e 2 _ rfl;have u:=e 3 _ rfl;simp[cells_int]at q s t u;obtain⟨k,j,_⟩:=qf5 underlying3 q;obtain⟨n,l,_⟩:=qf5 underlying3 s;obtain⟨a,m,_⟩:=qf5 underlying3 t;obtain⟨b,o,_⟩:=qf5 underlying3 u;simp only[xj,and_true]at j l m o;subst j;subst l;subst m;subst o;exact⟨⟨k,n,a,b⟩,rfl⟩
def J4{enc:TypeId×Value->H}{r:Reach}{d:DataW H}{p:List MemPlace}(j:Value.okWide prog W r b0 27 v)(h:DataW.Trod enc prog W 0 (λ_=>true) true 27 v d p) :
 ∃(ts:List Ty) (a:Option Addr) (c:Nat) (V:Nat->Value),v =.slice a ts.length c/\ts.length<=c/\dw (λ_=>True) W ts a V/\tysizes ts<=Rows.uptoBulk d:=by
 obtain⟨a,l,c,rfl⟩:=okWide_slice underlying27 j;obtain⟨fuel,f⟩:=h;obtain⟨m,o,n,ts,V,e,⟨g,b⟩,i,k⟩:=D7 (v:=.slice a l c) f;simp only[ke]at e;obtain⟨rfl,rfl,rfl⟩:=e;subst g;exact⟨ts,a,c,V,rfl,b,i,k⟩
def J5{enc:TypeId×Value->H}{r:Reach}{d:DataW H}{p:List MemPlace}(R:Value.okWide prog W r b0 28 v)(h:DataW.Trod enc prog W 0 (λ_=>true) true 28 v d p) :
 ∃(l:List Va) (a:Option Addr) (c:Nat) (V:Nat->Value),v =.slice a l.length c/\l.length<=c/\aT (λ_=>True) W l a V/\vsizes l<=Rows.uptoBulk d:=by
 haveI:Inhabited Va:=⟨.mk 0 0 0 ⟨#[]⟩ [] [] []⟩
 obtain⟨a,l,c,rfl⟩:=okWide_slice underlying28 R;obtain⟨fuel,hf⟩:=h;have g4:DataW.trod enc prog W 0 (λ_=>true) true fuel 28 [.slice a l c]=some (d,p):=hf;rcases Go.Deep.open_slice underlying28 g4 with⟨o,x4⟩|⟨J,len,ab,m,nf,D,Pl,o,_,hl,hm,z,x4,y⟩
 .simp only[xj,and_true]at o;rw[o];exact⟨[],none,0,λ_=>.i 0,rfl,qv _,aT.nil _ _ _ _,by simp[vsizes]⟩
 .simp only[xj,and_true]at o;rw[o];simp only[zd]at x4;obtain⟨rfl,_⟩:=x4;simp only[if_true]at z;subst z;rw[cells_va]at y;obtain⟨q,I⟩:=Go.Deep.choose_lt (α:=Va×Value) (n:=len) (p:=λi x=>aA (λ_=>True) W x.1 x.2/\x.1.size<=Rows.uptoBulk (D i) /\
   ∃k n a s G al j E tl F A C B,x.2=bg k n a s G al j E tl F A C B/\W.cells? 0 (J.add (i*7)) 7=some [.i k,.i n,.i a,.string s,.slice G al j,.slice E tl F,.slice A C B]) (λi g=>by
   obtain⟨O,h1,h2⟩:=y i od;obtain⟨k,n,a,s,G,al,j,E,tl,F,A,C,B,t,rfl,hL,hs⟩:=J6 _ nf O (D i) (Pl i) (qv _) h2;exact⟨(t,bg k n a s G al j E tl F A C B),hL,hs,k,n,a,s,G,al,j,E,tl,F,A,C,B,rfl,h1⟩)
  have e:((List.range len).map λi=>(q i).1).length=len:=ot
  refine⟨(List.range len).map λi=>(q i).1,some J,m,λi=>(q i).2,by rw[e],by rw[e];omega,⟨by rw[e];omega,λi g=>?_,λi g=>?_⟩,?_⟩
  .rw[e]at g;obtain⟨_,_,k',n',a',s',K,M,L,Y,jJ,Z,S,U,T,R,Q⟩:=I i g;obtain⟨_,_,b⟩:=qe5 Q;obtain⟨N,X,sp⟩:=J;have h0:sp=none:=by
    obtain⟨_,_,P⟩:=I 0 od;obtain⟨_,_,_,_,_,_,_,_,_,_,_,_,_,_,w⟩:=P;obtain⟨_,_,f⟩:=qe5 w;have:=f 0 od;simp[Addr.add]at this;exact jf1 this
   subst h0;have u:∀x,(⟨N,X,none⟩:Addr).add x=⟨N,X+x,none⟩:=λx=>oY
   rw[u]at b;refine⟨N,X,rfl,trivial,k',n',a',s',K,M,L,Y,jJ,Z,S,U,T,R,?_,?_,?_,?_,?_,?_,?_⟩
   .have:=b 0 od;simpa[Addr.add]using this
   .have:=b 1 od;simpa[Addr.add]using this
   .have:=b 2 od;simpa[Addr.add]using this
   .have:=b 3 od;simpa[Addr.add]using this
   .have:=b 4 od;simpa[Addr.add]using this
   .have:=b 5 od;simpa[Addr.add]using this
   .have:=b 6 od;simpa[Addr.add]using this
  .rw[e]at g;simpa using (I i g).1
  .have ad:=sO (λi=>(q i).1) D len (λi g=>(I i g).2.1);simp only[Rows.uptoBulk];omega
end Go.Proofs.YtgfdimkbfnpepaaGreat
namespace Go.Proofs.YtgfdimkbfnpepaaGreat.runMore
set_option linter.all false
open Go.Proofs.Tryz
set_option maxRecDepth 100000
set_option maxHeartbeats 4000000
open Go.ChangeShapes Go.WideShapes Go.ChangeAt Go.RowKit
open Pe (fI gm dU iZ)
def own:ownKnob prog.godebug=none:=oA
def laidOut:laidOutB prog=true:=oA
def PY{w w':World}(h:w.grownBy w' none):Below w.heap.size w w':=⟨h.os,h.tape,h.output,h.size,λk a=>h.block k a ot⟩
def contract(H:Type)(enc:TypeId×Value->H)(W:World)(g:Nat)(args:Array Value)(ds X:List (DataW H))(d:List MemPlace)
 (hval:∀(j:Nat) t v,f4.params[j]?=some t->args[j]?=some v->Value.okWide prog W .any g t v)
 (hW:DataW.Whole enc prog f4.params.toList Rows.runMoreSpec.vars false W args.toList ds X d) (hk:Rows.uptoSmall H (ds++X)=true) :
 Calls prog 4 args W λe U=>∃v,e =.returned v/\Rows.runMoreSpec.post enc prog f4 false true false false W args v U:=by
 have a:=hW;obtain⟨p,q,hA0,hV,rfl,an,aq⟩:=hW;have hA:DataW.TrodAll enc prog W 0 (λ_=>true) true f4.params.toList args.toList ds p:=hA0;rw[params4]at hA hval;obtain⟨v0,ax,d0,aa,p0,q0,J,rfl,rfl,Y,r0⟩:=trodAll_cons hA;obtain⟨T,ay,d1,ab,p1,q1,B,rfl,rfl,Z,r1⟩:=trodAll_cons r0;obtain⟨v2,az,d2,ad,p2,q2,C,rfl,rfl,h2,r2⟩:=trodAll_cons r1;obtain⟨v3,aE,d3,ah,p3,q3,D,rfl,rfl,h3,r3⟩:=trodAll_cons r2;obtain⟨v4,aO,d4,ai,p4,q4,E,rfl,rfl,h4,r4⟩:=trodAll_cons r3;obtain⟨v5,ba,d5,aj,p5,q5,F,rfl,rfl,h5,r5⟩:=trodAll_cons r4;obtain⟨rfl,rfl,rfl⟩:=trodAll_nil r5;obtain rfl:args=#[v0,T,v2,v3,v4,v5]:=by cases args;simp_all
 obtain⟨rfl,rfl⟩:=trodVars_none hV;have hb:=ja0 hk;simp only[qe3,Rows.uptoBulkAll]at hb;obtain⟨V,rfl⟩:=Q4 (hval 0 23 v0 rfl rfl) Y;obtain⟨n,hL,hs⟩:=Q3 (hval 1 26 T rfl rfl) Z;obtain⟨s,sa,sc,VS,rfl,Q,I,ar⟩:=J4 (hval 2 27 v2 rfl rfl) h2;obtain⟨l,la,lc,VL,rfl,M,i,ao⟩:=J5 (hval 3 28 v3 rfl rfl) h3;obtain⟨G,rfl⟩:=okWide_int underlying3 (hval 4 3 v4 rfl rfl);have L:bD G:=by obtain⟨fuel,K⟩:=h4;obtain⟨m,e,_,S⟩:=qf5 underlying3 K;simp[Value.cells]at e;subst e;exact l9 S
 obtain⟨c,rfl⟩:=okWide_int underlying3 (hval 5 3 v5 rfl rfl);have hm:bD c:=by obtain⟨fuel,K⟩:=h5;obtain⟨m,e,_,S⟩:=qf5 underlying3 K;simp[Value.cells]at e;subst e;exact l9 S
 clear hA0;simp only[qe3]at a;have o:∀x∈p0,x.block<W.heap.size:=λx b=>a.lt x (by simp[b]);have r:∀x∈p1,x.block<W.heap.size:=λx b=>a.lt x (by simp[b]);have u:∀x∈p2,x.block<W.heap.size:=λx b=>a.lt x (by simp[b]);have w:∀x∈p3,x.block<W.heap.size:=λx b=>a.lt x (by simp[b]);have y:∀x∈p4,x.block<W.heap.size:=λx b=>a.lt x (by simp[b]);have z:∀x∈p5,x.block<W.heap.size:=λx b=>a.lt x (by simp[b]);obtain⟨P,O⟩:=LH (hL.ae (ok':=λ_=>True) λ_ _ _=>trivial);obtain⟨A,R⟩:=qV I Q;have N:=yu i M;have k:=U6 i;have au:s.length<=tysizes s/\l.length<=vsizes l:=⟨tlength_le s,kS l⟩;have hH:=(ZY (en:=V) (n:=n) (s:=s) (l:=l) (aC:=G) (more:=c) P od A od k od (λx b=>by have:=fO b;omega) L hm).runN rfl (λ_=>True) W [_,T,_,_,_,_] ⟨Xd _ _ _,O,R,N,.v _,.v _,trivial⟩;refine hH.mono λe U ⟨L,v,he,hv⟩=>?_;obtain rfl:=Pe.bW hv;subst he;have f:=PY L;exact⟨_,rfl,_,_,_,[],p0++(p1++(p2++(p3++(p4++(p5++[]))))),[],a,jd4 (shut_bool underlying4 _) trodAll_mk0,jd4 (Below.trod laidOut oA (ja0 oA) Y f o) (jd4 (Below.trod laidOut oA (ja0 oA) Z f r) (jd4 (Below.trod laidOut oA (ja0 oA) h2 f u) (jd4 (Below.trod laidOut oA (ja0 oA) h3 f w) (jd4 (Below.trod laidOut oA (ja0 oA) h4 f y) (jd4 (Below.trod laidOut oA (ja0 oA) h5 f z) trodAll_mk0))))),rfl,f.frame _,λh=>by cases h⟩
def lifted(f:Os)(a:f.Started)(H:Type)(enc:TypeId×Value->H)(F:Stop.Interp) :
 ReturnsInHanded {} checked f 4 .any ((Rows.OpenSpec.upto Rows.runMoreSpec).pre6 enc prog f4 Rows.runMoreUptoRow.domain false) (((Rows.OpenSpec.upto Rows.runMoreSpec).at F).post enc prog f4 false true false false):=by
 refine returnsInHanded_of_cond (C:=checked) (s:=Rows.OpenSpec.upto Rows.runMoreSpec) (k:=Rows.uptoSmall) rfl own a oA func4
  (OpenSpec.witness (enc:=enc) (C:=checked) (s:=Rows.OpenSpec.upto Rows.runMoreSpec) (k:=Rows.uptoSmall) rfl false ⟨#[],#[.agg #[.i 0,.i 0,.i 0,.i 0],.agg #[.i 0,.i 0,.i 0,.string .empty,.n0],.n0,.n0,.i 0,.i 0],[]⟩ 8 oA oA oA
   (x:=([.agg [.lit (.int .i64 0),.lit (.int .i64 0),.lit (.int .i64 0),.lit (.int .i64 0)],.agg [.lit (.int .i64 0),.lit (.int .i64 0),.lit (.int .i64 0),.lit (.string []),.nil],.nil,.nil,.lit (.int .i64 0),.lit (.int .i64 0)],[],[])) oA rfl oA) ?_
 intro W d c g h b e j _ l _;exact contract H enc W d c g h b e j l
def over:Rows.runMoreUptoRow.holds Tryz.pinned (Rows.OpenSpec.upto Rows.runMoreSpec) :=
 OpenClaim.holds_of_cond 4 f4 rfl rfl rfl rfl rfl rfl rfl ⟨rfl,rfl,rfl,rfl,rfl⟩ rfl rfl rfl rfl rfl oA func4 oA
  (ja0 oA) (by unfold Func.isWrapper;first|(rw[if_pos vm];kernel_rfl)|(rw[if_neg vm];exact⟨rfl,rfl⟩))
  (λc a H b _ F=>lifted c a H b F)
end Go.Proofs.YtgfdimkbfnpepaaGreat.runMore
namespace Go.Proofs.YtgfdimkbfnpepaaGreat
set_option linter.all false
open Go.Proofs.Tryz
set_option maxRecDepth 100000
set_option maxHeartbeats 4000000
theorem runMore_holds:Rows.RunMoreUptoSaid:=runMore.over
#print axioms runMore_holds
