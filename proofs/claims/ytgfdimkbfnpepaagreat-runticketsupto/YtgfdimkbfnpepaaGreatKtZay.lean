/- For every environment, tree, list of types, list of values and number whose reading holds at most 1048576 values and letters, RunTickets returns true and leaves its arguments as they were. Condition: that bound on the reading. -/
import Derived.Deep.Slices
import Derived.Lib.SmallJoins
import Derived.Test.YtgfdimkbfnpepaaGreatKtZax
import Derived.JoinedCond
namespace Go.Proofs.YtgfdimkbfnpepaaGreat
set_option linter.all false
open Go.Proofs.Tryz
set_option maxRecDepth 100000
set_option maxHeartbeats 4000000
open Go.ChangeShapes Go.WideShapes Go.ChangeAt Go.RowKit
variable {n:Int}{b0 fuel:Nat}{ok:br}{H:Type}{v:cg}{W w:bx}
def cells_ty:prog.cellsOf 54=2:=oA
def cells_int:prog.cellsOf 3=1:=oA
def cells_tys:prog.cellsOf 27=1:=oA
def Lx(h:(Lit.int .i64 n).wf):bD n:=by simpa[Lit.wf,IntKind.min,IntKind.max,IntKind.signed,IntKind.bits,bD]using h
def yO: ∀(l:List (DataW H)) (x:DataW H),Rows.uptoBulkAll (l++[x])=Rows.uptoBulkAll l+Rows.uptoBulk x:=by
 intro l x
 induction l with
 | nil=>simp[Rows.uptoBulkAll]
 | cons y l a=>simp[Rows.uptoBulkAll,a];omega
def qh(T:Nat->Ty)(D:Nat->DataW H):∀(n:Nat),(∀i,i<n->(T i).size<=Rows.uptoBulk (D i))->tysizes ((List.range n).map T)<=Rows.uptoBulkAll ((List.range n).map D)
 | 0,_=>by simp[tysizes,Rows.uptoBulkAll]
 | n+1,h=>by have c:=qh T D n (λi a=>h i od);have b:=h n od;rw[jh3,qb5,qb5,pg,ja2,ja2,yO];simp only[tysizes];omega
def Jh(D:Nat->DataW H)(n i:Nat)(h:i<n):Rows.uptoBulk (D i)<=Rows.uptoBulkAll ((List.range n).map D):=by
 induction n with
 | zero=>omega
 | succ n b =>
  rw[jh3,qb5,ja2,yO]
  by_cases a:i=n
  .subst a;omega
  .have:=b od;omega
def JM{t:Int}{c:Nat}(a:bD t):aH ok w (.nd t []) (bY t none 0 c):=aH.of (V:=λ_=>.i 0) a (dw.nil _ _ _ _) (zE _)
def NW{enc:TypeId×cg->H}(N:Nat):∀(fuel:Nat) (cs:bk) (d:DataW H) (ps:List MemPlace),Rows.uptoBulk d<=N->DataW.trod enc prog W 0 (λ_=>true) true fuel 54 cs=some (d,ps) ->
 ∃k a l c t,cs=[.i k,.slice a l c]/\aH (λ_=>True) W t (bY k a l c)/\t.size<=Rows.uptoBulk d:=by
 haveI:Inhabited Ty:=⟨.nd 0 []⟩
 induction N with
 | zero =>
  intro fuel cs d ps hN h;have⟨S,n,_,C,_⟩:=jc7 underlying54 h;simp only[kh]at C;rw[C.1]at hN;simp[Rows.uptoBulk]at hN
 | succ N ih =>
  intro fuel cs d ps hN h;have⟨S,f,_,C,s,K,P⟩:=jc7 underlying54 h;rw[cells_ty]at s
  match S,K,cs,s with
  | [y0,y1],_,[v0,v1],_ =>
   have M:=P 0 _ rfl;have O:=P 1 _ rfl;simp[cells_int,cells_tys]at M O;have⟨k,L,x0,Q⟩:=ja4 underlying3 M;simp only[xo,and_true]at L;subst L;subst x0;simp only[kh]at C;obtain⟨rfl,_⟩:=C;rcases Go.Deep.open_slice underlying27 O with⟨v,R⟩|⟨a,len,V,m,nf,D,T,v,_,hl,hm,B,R,A⟩
   .simp only[xo,and_true]at v;subst v;refine⟨k,none,0,0,.nd k [],rfl,JM (Lx Q),?_⟩;simp[Ty.size,tysizes,Rows.uptoBulk]
   .simp only[xo,and_true]at v;subst v;subst R;simp only[if_true]at B;subst B;rw[cells_ty]at A;simp only[qc3,jb3,Rows.uptoBulk,Rows.uptoBulkAll]at hN|-;have I:∀i,i<len->Rows.uptoBulk (D i)<=N:=λi j=>by have:=Jh D len i j;omega
    have⟨q,F⟩:=Go.Deep.choose_lt (α:=Ty×cg) (n:=len) (p:=λi x=>aH (λ_=>True) W x.1 x.2/\x.1.size<=Rows.uptoBulk (D i) /\
     ∃k u l c,x.2=bY k u l c/\W.cells? 0 (a.add (i*2)) 2=some [.i k,.slice u l c]) (λi j=>by
     have⟨G,Y,Z⟩:=A i od;obtain⟨k,u,l,c,t,rfl,E,hs⟩:=ih nf G (D i) (T i) (I i j) Z;exact⟨(t,bY k u l c),E,hs,k,u,l,c,rfl,Y⟩)
    have e:((List.range len).map λi=>(q i).1).length=len:=ot
    have E:=aH.mk (ok:=λ_=>True) (w:=W) (t:=k) (args:=(List.range len).map λi=>(q i).1) (a:=some a) (c:=m) (λi=>(q i).2) (by rw[e];omega) (by rw[e];omega) (Lx Q)
     (λi j=>by
      rw[e]at j;have⟨_,_,k',u,l',U,hv,J⟩:=F i j;have⟨_,_,g⟩:=qg2 J;have⟨b,o,sp⟩:=a;have X:sp=none:=by have⟨_,_,k0,a0,l0,c0,_,z⟩:=F 0 od;have⟨_,_,r⟩:=qg2 z;have:=r 0 od;simp[Addr.add]at this;exact jg5 this
      subst X;have y:∀x,(⟨b,o,none⟩:Addr).add x=⟨b,o+x,none⟩:=λx=>oX
      rw[y]at g;refine⟨b,o,rfl,trivial,k',u,l',U,hv,?_,?_⟩
      .have:=g 0 od;simpa[Addr.add]using this
      .have:=g 1 od;simpa[Addr.add]using this)
     (λi j=>by rw[e]at j;simpa using (F i j).1)
    rw[e]at E;refine⟨k,some a,len,m,_,rfl,E,?_⟩;have aa:=qh (λi=>(q i).1) D len (λi j=>(F i j).2.1);rw[Ty.size];omega
def cells24:prog.cellsOf 26=5:=oA
def cells3:prog.cellsOf 3=1:=oA
def cells9:prog.cellsOf 9=1:=oA
def cells22:prog.cellsOf 24=1:=oA
def l9(h:(Lit.int .i64 n).wf):bD n:=by simpa[Lit.wf,IntKind.min,IntKind.max,IntKind.signed,IntKind.bits,bD]using h
def uM(T:Nat->Tr)(D:Nat->DataW H):∀(n:Nat),(∀i,i<n->(T i).size<=Rows.uptoBulk (D i))->sizes ((List.range n).map T)<=Rows.uptoBulkAll ((List.range n).map D)
 | 0,_=>by simp[sizes,Rows.uptoBulkAll]
 | n+1,h=>by
  have d:=uM T D n (λi b=>h i od);have c:=h n od;have e:∀(l:List (DataW H)) (x:DataW H),Rows.uptoBulkAll (l++[x])=Rows.uptoBulkAll l+Rows.uptoBulk x:=by
   intro l x
   induction l with
   | nil=>simp[Rows.uptoBulkAll]
   | cons y l a=>simp[Rows.uptoBulkAll,a];omega
  rw[jh3,qb5,qb5,sK,ja2,ja2,e];simp only[sizes];omega
def Dg(D:Nat->DataW H)(n i:Nat)(h:i<n):Rows.uptoBulk (D i)<=Rows.uptoBulkAll ((List.range n).map D):=by
 induction n with
 | zero=>omega
 | succ n c =>
  have e:∀(l:List (DataW H)) (x:DataW H),Rows.uptoBulkAll (l++[x])=Rows.uptoBulkAll l+Rows.uptoBulk x:=by
   intro l x
   induction l with
   | nil=>simp[Rows.uptoBulkAll]
   | cons y l a=>simp[Rows.uptoBulkAll,a];omega
  rw[jh3,qb5,ja2,e]
  by_cases b:i=n
  .subst b;omega
  .have:=c od;omega
def JN{k p:Int}{s:bo}(c:s.size<=maxLen)(hk:bD k)(hn:bD n)(b:bD p):bI ok w (.nd k n p s []) (af k n p s none 0 0) :=
 bI.mk (hk:=zE _) (args:=[]) (λ_=>.i 0) ot c hk hn b (λi a=>by simp at a) (λi a=>by simp at a)
def D6{enc:TypeId×cg->H}(N:Nat):∀(fuel:Nat) (cs:bk) (d:DataW H) (ps:List MemPlace),Rows.uptoBulk d<=N->DataW.trod enc prog W 0 (λ_=>true) true fuel 26 cs=some (d,ps) ->
 ∃k n p s a l c t,cs=[.i k,.i n,.i p,.string s,.slice a l c]/\bI (λ_=>True) W t (af k n p s a l c)/\t.size<=Rows.uptoBulk d:=by
 haveI:Inhabited Tr:=⟨.nd 0 0 0 ⟨#[]⟩ []⟩
 induction N with
 | zero =>
  intro fuel cs d ps hN h;have⟨xs,n,_,F,_⟩:=jc7 underlying26 h;simp only[kh]at F;rw[F.1]at hN;simp[Rows.uptoBulk]at hN
 | succ N ih =>
  intro fuel cs d ps hN h;have⟨xs,f,_,F,u,M,C⟩:=jc7 underlying26 h;rw[cells24]at u
  match xs,M,cs,u with
  | [y0,y1,y2,y3,y4],_,[v0,v1,v2,v3,v4],_ =>
   have S:=C 0 _ rfl;have T:=C 1 _ rfl;have U:=C 2 _ rfl;have V:=C 3 _ rfl;have X:=C 4 _ rfl;simp[cells3,cells9,cells22]at S T U V X;have⟨k,O,x0,Y⟩:=ja4 underlying3 S;have⟨n,P,x1,Z⟩:=ja4 underlying3 T;have⟨p,Q,x2,i2⟩:=ja4 underlying3 U;have⟨s,R,x3,i3⟩:=DataW.trod_string underlying9 V;simp only[xo,and_true]at O P Q R;subst O;subst P;subst Q;subst R;subst x0;subst x1;subst x2;subst x3;simp only[kh]at F;obtain⟨rfl,_⟩:=F;rcases Go.Deep.open_slice underlying24 X with⟨y,x4⟩|⟨a,len,aa,m,nf,D,Pl,y,_,hl,hm,E,x4,B⟩
   .simp only[xo,and_true]at y;subst y;refine⟨k,n,p,s,none,0,0,.nd k n p s [],rfl,JN i3 (l9 Y) (l9 Z) (l9 i2),?_⟩;simp[Tr.size,sizes,Rows.uptoBulk]
   .simp only[xo,and_true]at y;subst y;subst x4;simp only[if_true]at E;subst E;rw[cells24]at B;simp only[qc3,jb3,Rows.uptoBulk,Rows.uptoBulkAll]at hN|-;have K:∀i,i<len->Rows.uptoBulk (D i)<=N:=λi j=>by have:=Dg D len i j;omega
    have⟨q,I⟩:=Go.Deep.choose_lt (α:=Tr×cg) (n:=len) (p:=λi x=>bI (λ_=>True) W x.1 x.2/\x.1.size<=Rows.uptoBulk (D i) /\
     ∃k n p s v l c,x.2=af k n p s v l c/\W.cells? 0 (a.add (i*5)) 5=some [.i k,.i n,.i p,.string s,.slice v l c]) (λi j=>by
     have⟨J,h1,h2⟩:=B i od;obtain⟨k,n,p,s,v,l,c,t,rfl,G,hs⟩:=ih nf J (D i) (Pl i) (K i j) h2;exact⟨(t,af k n p s v l c),G,hs,k,n,p,s,v,l,c,rfl,h1⟩)
    have g:((List.range len).map λi=>(q i).1).length=len:=ot
    have G:=bI.mk (hk:=by rw[g];omega) (ok:=λ_=>True) (w:=W) (k:=k) (n:=n) (p:=p) (s:=s) (args:=(List.range len).map λi=>(q i).1) (a:=some a) (c:=m) (λi=>(q i).2) (by rw[g];omega) i3 (l9 Y) (l9 Z) (l9 i2)
     (λi j=>by
      rw[g]at j;have⟨_,_,k',n',p',s',v,l',c',hv,L⟩:=I i j;have⟨_,_,e⟩:=qg2 L;have⟨b,o,sp⟩:=a;have h0:sp=none:=by have⟨_,_,k0,n0,p0,s0,a0,l0,c0,_,A⟩:=I 0 od;have⟨_,_,r⟩:=qg2 A;have:=r 0 od;simp[Addr.add]at this;exact jg5 this
      subst h0;have z:∀x,(⟨b,o,none⟩:Addr).add x=⟨b,o+x,none⟩:=λx=>oX
      rw[z]at e;refine⟨b,o,rfl,trivial,k',n',p',s',v,l',c',hv,?_,?_,?_,?_,?_⟩
      .have:=e 0 od;simpa[Addr.add]using this
      .have:=e 1 od;simpa[Addr.add]using this
      .have:=e 2 od;simpa[Addr.add]using this
      .have:=e 3 od;simpa[Addr.add]using this
      .have:=e 4 od;simpa[Addr.add]using this)
     (λi j=>by rw[g]at j;simpa using (I i j).1)
    rw[g]at G;refine⟨k,n,p,s,some a,len,m,_,rfl,G,?_⟩;have ab:=uM (λi=>(q i).1) D len (λi j=>(I i j).2.1);rw[Tr.size];omega
def Q3{enc:TypeId×cg->H}{r:Reach}{d:DataW H}{p:List MemPlace}(w:Value.okWide prog W r b0 26 v)(h:DataW.Trod enc prog W 0 (λ_=>true) true 26 v d p) :
 ∃t,bI (· < W.heap.size) W t v/\t.size<=Rows.uptoBulk d:=by
 obtain⟨cs,rfl,u⟩:=okWide_struct underlying26 w;have⟨fuel,m⟩:=h;have⟨k,n,q,s,a,l,c,t,e,g,o⟩:=D6 _ fuel _ d p (qS _) m;have f:cs=#[.i k,.i n,.i q,.string s,.slice a l c]:=by
  have : cs.toList=[.i k,.i n,.i q,.string s,.slice a l c]:=by simpa[Value.cells]using e
  apply Array.ext';rw[this]
 subst f;exact⟨t,g.ae (λb j _=>j),o⟩
def cells_va:prog.cellsOf 36=7:=oA
def cells_vas:prog.cellsOf 28=1:=oA
def D7{enc:TypeId×cg->H}{d:DataW H}{ps:List MemPlace}(h:DataW.trod enc prog W 0 (λ_=>true) true fuel 27 [v]=some (d,ps)) :
 ∃a l c ts V,v =.slice a l c/\(ts.length=l/\l<=c)/\dw (λ_=>True) W ts a V/\tysizes ts<=Rows.uptoBulk d:=by
 haveI:Inhabited Ty:=⟨.nd 0 []⟩
 rcases Go.Deep.open_slice underlying27 h with⟨o,F⟩|⟨a,len,I,m,Q,D,G,o,_,S,T,w,F,u⟩
 .simp only[xo,and_true]at o;subst o;exact⟨none,0,0,[],λ_=>.i 0,rfl,⟨rfl,qS _⟩,dw.nil _ _ _ _,by simp[tysizes]⟩
 .simp only[xo,and_true]at o;simp only[kh]at F;subst o;obtain⟨rfl,_⟩:=F;simp only[if_true]at w;subst w;rw[cells_ty]at u;have⟨q,y⟩:=Go.Deep.choose_lt (α:=Ty×cg) (n:=len) (p:=λi x=>aH (λ_=>True) W x.1 x.2/\x.1.size<=Rows.uptoBulk (D i) /\
   ∃k j l c,x.2=bY k j l c/\W.cells? 0 (a.add (i*2)) 2=some [.i k,.slice j l c]) (λi g=>by
   have⟨A,K,L⟩:=u i od;obtain⟨k,j,l,c,t,rfl,M,N⟩:=NW _ Q A (D i) (G i) (qS _) L;exact⟨(t,bY k j l c),M,N,k,j,l,c,rfl,K⟩)
  have b:((List.range len).map λi=>(q i).1).length=len:=ot
  refine⟨some a,len,m,(List.range len).map λi=>(q i).1,λi=>(q i).2,rfl,⟨b,od⟩,⟨by rw[b];omega,λi g=>?_,λi g=>?_⟩,?_⟩
  .rw[b]at g;have⟨_,_,k,j,l,c,P,C⟩:=y i g;have⟨_,_,e⟩:=qg2 C;have⟨z,E,R⟩:=a;have J:R=none:=by
    have⟨_,_,B⟩:=y 0 od;have⟨_,_,_,_,_,s⟩:=B;have⟨_,_,f⟩:=qg2 s;have:=f 0 od;simp[Addr.add]at this;exact jg5 this
   subst J;have r:∀x,(⟨z,E,none⟩:Addr).add x=⟨z,E+x,none⟩:=λx=>oX
   rw[r]at e;refine⟨z,E,rfl,trivial,k,j,l,c,P,?_,?_⟩
   .have:=e 0 od;simpa[Addr.add]using this
   .have:=e 1 od;simpa[Addr.add]using this
  .rw[b]at g;simpa using (y i g).1
  .have O:=qh (λi=>(q i).1) D len (λi g=>(y i g).2.1);simp only[Rows.uptoBulk];omega
def NV{enc:TypeId×cg->H}{d:DataW H}{ps:List MemPlace}(h:DataW.trod enc prog W 0 (λ_=>true) true fuel 24 [v]=some (d,ps)) :
 ∃a l c ts V,v =.slice a l c/\(ts.length=l/\l<=c)/\cK (λ_=>True) W ts a V/\sizes ts<=Rows.uptoBulk d:=by
 haveI:Inhabited Tr:=⟨.nd 0 0 0 ⟨#[]⟩ []⟩
 rcases Go.Deep.open_slice underlying24 h with⟨o,G⟩|⟨a,len,J,m,R,D,I,o,_,T,U,y,G,w⟩
 .simp only[xo,and_true]at o;subst o;exact⟨none,0,0,[],λ_=>.i 0,rfl,⟨rfl,qS _⟩,cK.nil _ _ _ _,by simp[sizes]⟩
 .simp only[xo,and_true]at o;simp only[kh]at G;subst o;obtain⟨rfl,_⟩:=G;simp only[if_true]at y;subst y;rw[cells24]at w;have⟨q,z⟩:=Go.Deep.choose_lt (α:=Tr×cg) (n:=len) (p:=λi x=>bI (λ_=>True) W x.1 x.2/\x.1.size<=Rows.uptoBulk (D i) /\
   ∃k n p s j l c,x.2=af k n p s j l c/\W.cells? 0 (a.add (i*5)) 5=some [.i k,.i n,.i p,.string s,.slice j l c]) (λi g=>by
   have⟨B,L,M⟩:=w i od;obtain⟨k,n,p,s,j,l,c,t,rfl,N,O⟩:=D6 _ R B (D i) (I i) (qS _) M;exact⟨(t,af k n p s j l c),N,O,k,n,p,s,j,l,c,rfl,L⟩)
  have e:((List.range len).map λi=>(q i).1).length=len:=ot
  refine⟨some a,len,m,(List.range len).map λi=>(q i).1,λi=>(q i).2,rfl,⟨e,od⟩,⟨by rw[e];omega,λi g=>?_,λi g=>?_⟩,?_⟩
  .rw[e]at g;have⟨_,_,k,n,p,s,j,l,c,Q,E⟩:=z i g;have⟨_,_,b⟩:=qg2 E;have⟨A,F,S⟩:=a;have K:S=none:=by
    have⟨_,_,C⟩:=z 0 od;have⟨_,_,_,_,_,_,_,_,u⟩:=C;have⟨_,_,f⟩:=qg2 u;have:=f 0 od;simp[Addr.add]at this;exact jg5 this
   subst K;have r:∀x,(⟨A,F,none⟩:Addr).add x=⟨A,F+x,none⟩:=λx=>oX
   rw[r]at b;refine⟨A,F,rfl,trivial,k,n,p,s,j,l,c,Q,?_,?_,?_,?_,?_⟩
   .have:=b 0 od;simpa[Addr.add]using this
   .have:=b 1 od;simpa[Addr.add]using this
   .have:=b 2 od;simpa[Addr.add]using this
   .have:=b 3 od;simpa[Addr.add]using this
   .have:=b 4 od;simpa[Addr.add]using this
  .rw[e]at g;simpa using (z i g).1
  .have P:=uM (λi=>(q i).1) D len (λi g=>(z i g).2.1);simp only[Rows.uptoBulk];omega
def sO(T:Nat->Va)(D:Nat->DataW H):∀(n:Nat),(∀i,i<n->(T i).size<=Rows.uptoBulk (D i))->vsizes ((List.range n).map T)<=Rows.uptoBulkAll ((List.range n).map D)
 | 0,_=>by simp[vsizes,Rows.uptoBulkAll]
 | n+1,h=>by have c:=sO T D n (λi a=>h i od);have b:=h n od;rw[jh3,qb5,qb5,kK,ja2,ja2,yO];simp only[vsizes];omega
def J6{enc:TypeId×cg->H}(N:Nat):∀(fuel:Nat) (cs:bk) (d:DataW H) (ps:List MemPlace),Rows.uptoBulk d<=N->DataW.trod enc prog W 0 (λ_=>true) true fuel 36 cs=some (d,ps) ->
 ∃k n a s o al ac ta tl tc na j nc t,cs=[.i k,.i n,.i a,.string s,.slice o al ac,.slice ta tl tc,.slice na j nc]/\aA (λ_=>True) W t (bg k n a s o al ac ta tl tc na j nc)/\t.size<=Rows.uptoBulk d:=by
 haveI:Inhabited Va:=⟨.mk 0 0 0 ⟨#[]⟩ [] [] []⟩
 induction N with
 | zero =>
  intro fuel cs d ps hN h;have⟨xs,n,_,C,_⟩:=jc7 underlying36 h;simp only[kh]at C;rw[C.1]at hN;simp[Rows.uptoBulk]at hN
 | succ N ih =>
  intro fuel cs d ps hN h;have⟨xs,f,_,C,l,U,r⟩:=jc7 underlying36 h;rw[cells_va]at l
  match xs,U,cs,l with
  | [y0,y1,y2,y3,y4,y5,y6],_,[v0,v1,v2,v3,v4,v5,v6],_ =>
   have g0:=r 0 _ rfl;have g1:=r 1 _ rfl;have g2:=r 2 _ rfl;have g3:=r 3 _ rfl;have g4:=r 4 _ rfl;have g5:=r 5 _ rfl;have g6:=r 6 _ rfl;simp[cells3,cells9,cells_vas,cells_tys,cells22]at g0 g1 g2 g3 g4 g5 g6;have⟨k,e0,x0,i0⟩:=ja4 underlying3 g0;have⟨n,e1,x1,i1⟩:=ja4 underlying3 g1;have⟨a,e2,x2,i2⟩:=ja4 underlying3 g2;have⟨s,e3,x3,i3⟩:=DataW.trod_string underlying9 g3;simp only[xo,and_true]at e0 e1 e2 e3;subst e0;subst e1;subst e2;subst e3;subst x0;subst x1;subst x2;subst x3;obtain⟨ta,tl,tc,types,VT,rfl,⟨T,aj⟩,w,hsT⟩:=D7 g5;obtain⟨na,j,nc,code,VN,rfl,⟨R,ah⟩,v,S⟩:=NV g6;subst T;subst R;simp only[kh]at C;obtain⟨rfl,_⟩:=C;rcases Go.Deep.open_slice underlying28 g4 with⟨u,x4⟩|⟨o,len,ae,m,nf,D,Pl,u,_,hl,hm,B,x4,A⟩
   .simp only[xo,and_true]at u;subst u;refine⟨k,n,a,s,none,0,0,ta,types.length,tc,na,code.length,nc,.mk k n a s [] types code,rfl,aA.of (args:=[]) (V:=λ_=>.i 0) (zE _) i3 (l9 i0) (l9 i1) (l9 i2) (aT.nil _ _ _ _) w v ⟨oS,oS⟩,?_⟩;simp[Va.size,vsizes,Rows.uptoBulk,Rows.uptoBulkAll]at hsT S|-;omega
   .simp only[xo,and_true]at u;subst u;subst x4;simp only[if_true]at B;subst B;rw[cells_va]at A;simp only[qc3,jb3,Rows.uptoBulk,Rows.uptoBulkAll]at hN|-;have P:∀i,i<len->Rows.uptoBulk (D i)<=N:=λi e=>by have:=Dg D len i e;omega
    have⟨q,G⟩:=Go.Deep.choose_lt (α:=Va×cg) (n:=len) (p:=λi x=>aA (λ_=>True) W x.1 x.2/\x.1.size<=Rows.uptoBulk (D i) /\
     ∃k n a s E al ac ta tl tc na j nc,x.2=bg k n a s E al ac ta tl tc na j nc/\W.cells? 0 (o.add (i*7)) 7=some [.i k,.i n,.i a,.string s,.slice E al ac,.slice ta tl tc,.slice na j nc]) (λi e=>by
     have⟨M,h1,h2⟩:=A i od;obtain⟨k,n,a,s,E,al,ac,ta,tl,tc,na,j,nc,t,rfl,F,hs⟩:=ih nf M (D i) (Pl i) (P i e) h2;exact⟨(t,bg k n a s E al ac ta tl tc na j nc),F,hs,k,n,a,s,E,al,ac,ta,tl,tc,na,j,nc,rfl,h1⟩)
    have c:((List.range len).map λi=>(q i).1).length=len:=ot
    have hV:aT (λ_=>True) W ((List.range len).map λi=>(q i).1) (some o) (λi=>(q i).2):=by
     refine⟨by rw[c];omega,λi e=>?_,λi e=>?_⟩
     .rw[c]at e;have⟨_,_,k',n',a',s',I,K,J,ab,jJ,ad,X,Z,Y,hv,Q⟩:=G i e;have⟨_,_,b⟩:=qg2 Q;have⟨L,oo,sp⟩:=o;have h0:sp=none:=by
       have⟨_,_,O⟩:=G 0 od;have⟨_,_,_,_,_,_,_,_,_,_,_,_,_,_,z⟩:=O;have⟨_,_,g⟩:=qg2 z;have:=g 0 od;simp[Addr.add]at this;exact jg5 this
      subst h0;have y:∀x,(⟨L,oo,none⟩:Addr).add x=⟨L,oo+x,none⟩:=λx=>oX
      rw[y]at b;refine⟨L,oo,rfl,trivial,k',n',a',s',I,K,J,ab,jJ,ad,X,Z,Y,hv,?_,?_,?_,?_,?_,?_,?_⟩
      .have:=b 0 od;simpa[Addr.add]using this
      .have:=b 1 od;simpa[Addr.add]using this
      .have:=b 2 od;simpa[Addr.add]using this
      .have:=b 3 od;simpa[Addr.add]using this
      .have:=b 4 od;simpa[Addr.add]using this
      .have:=b 5 od;simpa[Addr.add]using this
      .have:=b 6 od;simpa[Addr.add]using this
     .rw[c]at e;simpa using (G i e).1
    have F:=aA.of (k:=k) (n:=n) (a:=a) (s:=s) (ac:=m) (tc:=tc) (nc:=nc) (by rw[c];omega) i3 (l9 i0) (l9 i1) (l9 i2) hV w v ⟨oS,oS⟩;rw[c]at F;refine⟨k,n,a,s,some o,len,m,ta,types.length,tc,na,code.length,nc,_,rfl,F,?_⟩;have ai:=sO (λi=>(q i).1) D len (λi e=>(G i e).2.1);rw[Va.size];omega
def cells_env:prog.cellsOf 23=4:=oA
def Q4{enc:TypeId×cg->H}{r:Reach}{d:DataW H}{p:List MemPlace}(x:Value.okWide prog W r b0 23 v)(h:DataW.Trod enc prog W 0 (λ_=>true) true 23 v d p) :
 ∃en:En,v =.agg #[.i en.self,.i en.sender,.i en.amount,.i en.balance]:=by
 obtain⟨cs,rfl,w⟩:=okWide_struct underlying23 x;have⟨fuel,e⟩:=h;have⟨y,f,_,z,c,g,e⟩:=jc7 underlying23 e;rw[cells_env]at c;have⟨cs⟩:=cs;simp only[Value.cells]at c e
 match y,g,cs,c with
 | [E,F,G,I],_,[A,B,C,D],_ =>
  have q:=e 0 _ rfl;have s:=e 1 _ rfl;have t:=e 2 _ rfl;have u:=e 3 _ rfl;simp[cells_int]at q s t u;have⟨k,j,_⟩:=ja4 underlying3 q;have⟨n,l,_⟩:=ja4 underlying3 s;have⟨a,m,_⟩:=ja4 underlying3 t;have⟨b,o,_⟩:=ja4 underlying3 u;simp only[xo,and_true]at j l m o;subst j;subst l;subst m;subst o;exact⟨⟨k,n,a,b⟩,rfl⟩
def J4{enc:TypeId×cg->H}{r:Reach}{d:DataW H}{p:List MemPlace}(j:Value.okWide prog W r b0 27 v)(h:DataW.Trod enc prog W 0 (λ_=>true) true 27 v d p) :
 ∃(ts:ao) (a:bj) (c:Nat) (V:bt),v =.slice a ts.length c/\ts.length<=c/\dw (λ_=>True) W ts a V/\tysizes ts<=Rows.uptoBulk d:=by
 obtain⟨a,l,c,rfl⟩:=okWide_slice underlying27 j;have⟨fuel,f⟩:=h;have⟨m,o,n,ts,V,e,⟨g,b⟩,i,k⟩:=D7 (v:=.slice a l c) f;simp only[kl]at e;obtain⟨rfl,rfl,rfl⟩:=e;subst g;exact⟨ts,a,c,V,rfl,b,i,k⟩
def J5{enc:TypeId×cg->H}{r:Reach}{d:DataW H}{p:List MemPlace}(R:Value.okWide prog W r b0 28 v)(h:DataW.Trod enc prog W 0 (λ_=>true) true 28 v d p) :
 ∃(l:an) (a:bj) (c:Nat) (V:bt),v =.slice a l.length c/\l.length<=c/\aT (λ_=>True) W l a V/\vsizes l<=Rows.uptoBulk d:=by
 haveI:Inhabited Va:=⟨.mk 0 0 0 ⟨#[]⟩ [] [] []⟩
 obtain⟨a,l,c,rfl⟩:=okWide_slice underlying28 R;have⟨fuel,hf⟩:=h;have g4:DataW.trod enc prog W 0 (λ_=>true) true fuel 28 [.slice a l c]=some (d,p):=hf;rcases Go.Deep.open_slice underlying28 g4 with⟨o,x4⟩|⟨J,len,ab,m,nf,D,Pl,o,_,hl,hm,z,x4,y⟩
 .simp only[xo,and_true]at o;rw[o];exact⟨[],none,0,λ_=>.i 0,rfl,qS _,aT.nil _ _ _ _,by simp[vsizes]⟩
 .simp only[xo,and_true]at o;rw[o];simp only[kh]at x4;obtain⟨rfl,_⟩:=x4;simp only[if_true]at z;subst z;rw[cells_va]at y;have⟨q,I⟩:=Go.Deep.choose_lt (α:=Va×cg) (n:=len) (p:=λi x=>aA (λ_=>True) W x.1 x.2/\x.1.size<=Rows.uptoBulk (D i) /\
   ∃k n a s G al j E tl F A C B,x.2=bg k n a s G al j E tl F A C B/\W.cells? 0 (J.add (i*7)) 7=some [.i k,.i n,.i a,.string s,.slice G al j,.slice E tl F,.slice A C B]) (λi g=>by
   have⟨O,h1,h2⟩:=y i od;obtain⟨k,n,a,s,G,al,j,E,tl,F,A,C,B,t,rfl,hL,hs⟩:=J6 _ nf O (D i) (Pl i) (qS _) h2;exact⟨(t,bg k n a s G al j E tl F A C B),hL,hs,k,n,a,s,G,al,j,E,tl,F,A,C,B,rfl,h1⟩)
  have e:((List.range len).map λi=>(q i).1).length=len:=ot
  refine⟨(List.range len).map λi=>(q i).1,some J,m,λi=>(q i).2,by rw[e],by rw[e];omega,⟨by rw[e];omega,λi g=>?_,λi g=>?_⟩,?_⟩
  .rw[e]at g;have⟨_,_,k',n',a',s',K,M,L,Y,jJ,Z,S,U,T,R,Q⟩:=I i g;have⟨_,_,b⟩:=qg2 Q;have⟨N,X,sp⟩:=J;have h0:sp=none:=by
    have⟨_,_,P⟩:=I 0 od;have⟨_,_,_,_,_,_,_,_,_,_,_,_,_,_,w⟩:=P;have⟨_,_,f⟩:=qg2 w;have:=f 0 od;simp[Addr.add]at this;exact jg5 this
   subst h0;have u:∀x,(⟨N,X,none⟩:Addr).add x=⟨N,X+x,none⟩:=λx=>oX
   rw[u]at b;refine⟨N,X,rfl,trivial,k',n',a',s',K,M,L,Y,jJ,Z,S,U,T,R,?_,?_,?_,?_,?_,?_,?_⟩
   .have:=b 0 od;simpa[Addr.add]using this
   .have:=b 1 od;simpa[Addr.add]using this
   .have:=b 2 od;simpa[Addr.add]using this
   .have:=b 3 od;simpa[Addr.add]using this
   .have:=b 4 od;simpa[Addr.add]using this
   .have:=b 5 od;simpa[Addr.add]using this
   .have:=b 6 od;simpa[Addr.add]using this
  .rw[e]at g;simpa using (I i g).1
  .have ad:=sO (λi=>(q i).1) D len (λi g=>(I i g).2.1);simp only[Rows.uptoBulk];omega
end Go.Proofs.YtgfdimkbfnpepaaGreat
namespace Go.Proofs.YtgfdimkbfnpepaaGreat.runTickets
set_option linter.all false
open Go.Proofs.Tryz
set_option maxRecDepth 100000
set_option maxHeartbeats 4000000
open Go.ChangeShapes Go.WideShapes Go.ChangeAt Go.RowKit
open Pe (fI gm dU iZ)
def own:ownKnob prog.godebug=none:=oA
def laidOut:laidOutB prog:=oA
def PY{w w':bx}(h:cm w w' none):Below w.heap.size w w':=⟨h.os,h.tape,h.output,h.size,λk a=>h.block k a ot⟩
def contract(H:Type)(enc:TypeId×cg->H)(W:bx)(f:Nat)(args:Array cg)(ds R:List (DataW H))(c:List MemPlace)
 (hval:∀(j:Nat) t v,f7.params[j]?=some t->args[j]?=some v->Value.okWide prog W .any f t v)
 (hW:DataW.Whole enc prog f7.params.toList Rows.runTicketsSpec.vars false W args.toList ds R c) (hk:Rows.uptoSmall H (ds++R)) :
 Calls prog 7 args W λe P=>∃v,e =.returned v/\Rows.runTicketsSpec.post enc prog f7 false true false false W args v P:=by
 have a:=hW;obtain⟨p,q,hA0,hV,rfl,aj,ar⟩:=hW;have Y:DataW.TrodAll enc prog W 0 (λ_=>true) true f7.params.toList args.toList ds p:=hA0;rw[params7]at Y hval;obtain⟨v0,ay,d0,aa,Z,q0,F,rfl,rfl,S,r0⟩:=trodAll_cons Y;obtain⟨O,az,d1,ab,p1,q1,z,rfl,rfl,T,r1⟩:=trodAll_cons r0;obtain⟨v2,aO,d2,ad,p2,q2,A,rfl,rfl,U,r2⟩:=trodAll_cons r1;obtain⟨v3,ba,d3,ah,p3,q3,B,rfl,rfl,V,r3⟩:=trodAll_cons r2;obtain⟨v4,bb,d4,ai,p4,q4,C,rfl,rfl,X,r4⟩:=trodAll_cons r3;obtain⟨rfl,rfl,rfl⟩:=trodAll_nil r4;obtain rfl:args=#[v0,O,v2,v3,v4]:=by cases args;simp_all
 obtain⟨rfl,rfl⟩:=trodVars_none hV;have hb:=jb1 hk;simp only[qd1,Rows.uptoBulkAll]at hb;obtain⟨Q,rfl⟩:=Q4 (hval 0 23 v0 rfl rfl) S;have⟨n,hL,hs⟩:=Q3 (hval 1 26 O rfl rfl) T;obtain⟨s,sa,sc,VS,rfl,M,E,au⟩:=J4 (hval 2 27 v2 rfl rfl) U;obtain⟨l,la,lc,VL,rfl,I,g,aq⟩:=J5 (hval 3 28 v3 rfl rfl) V;obtain⟨D,rfl⟩:=okWide_int underlying3 (hval 4 3 v4 rfl rfl);have G:bD D:=by have⟨fuel,hf⟩:=X;have⟨m,e,_,hw⟩:=ja4 underlying3 hf;simp[Value.cells]at e;subst e;exact l9 hw
 clear hA0;simp only[qd1]at a;have k:∀x∈Z,x.block<W.heap.size:=λx b=>a.lt x (by simp[b]);have o:∀x∈p1,x.block<W.heap.size:=λx b=>a.lt x (by simp[b]);have r:∀x∈p2,x.block<W.heap.size:=λx b=>a.lt x (by simp[b]);have u:∀x∈p3,x.block<W.heap.size:=λx b=>a.lt x (by simp[b]);have w:∀x∈p4,x.block<W.heap.size:=λx b=>a.lt x (by simp[b]);have⟨L,K⟩:=LH (hL.ae (ok':=λ_=>True) λ_ _ _=>trivial);have⟨y,N⟩:=qV E M;have J:=yu g I;have i:=U6 g;have ax:s.length<=tysizes s/\l.length<=vsizes l:=⟨tlength_le s,kS l⟩;have hH:=(abq (en:=Q) (n:=n) (s:=s) (l:=l) (aC:=D) L od y od i od (λx b=>by have:=fO b;omega) G).runN rfl (λ_=>True) W [_,O,_,_,_] ⟨Xd _ _ _,K,N,J,.v _,trivial⟩;refine hH.mono λe P ⟨G,v,he,hv⟩=>?_;obtain rfl:=Pe.bW hv;subst he;have d:=PY G;exact⟨_,rfl,_,_,_,[],Z++(p1++(p2++(p3++(p4++[])))),[],a,jh1 (shut_bool underlying4 _) trodAll_mk0,jh1 (Below.trod laidOut oA (jb1 oA) S d k) (jh1 (Below.trod laidOut oA (jb1 oA) T d o) (jh1 (Below.trod laidOut oA (jb1 oA) U d r) (jh1 (Below.trod laidOut oA (jb1 oA) V d u) (jh1 (Below.trod laidOut oA (jb1 oA) X d w) trodAll_mk0)))),rfl,d.frame _,λh=>by cases h⟩
def lifted(f:Os)(a:f.Started)(H:Type)(enc:TypeId×cg->H)(F:Stop.Interp) :
 ReturnsInHanded {} checked f 7 .any ((Rows.OpenSpec.upto Rows.runTicketsSpec).pre6 enc prog f7 Rows.runTicketsUptoRow.domain false) (((Rows.OpenSpec.upto Rows.runTicketsSpec).at F).post enc prog f7 false true false false):=by
 refine returnsInHanded_of_cond (C:=checked) (s:=Rows.OpenSpec.upto Rows.runTicketsSpec) (k:=Rows.uptoSmall) rfl own a oA func7
  (OpenSpec.witness (enc:=enc) (C:=checked) (s:=Rows.OpenSpec.upto Rows.runTicketsSpec) (k:=Rows.uptoSmall) rfl false ⟨#[],#[.agg #[.i 0,.i 0,.i 0,.i 0],.agg #[.i 0,.i 0,.i 0,.string .empty,.n0],.n0,.n0,.i 0],[]⟩ 8 oA oA oA
   (x:=([.agg [.lit (.int .i64 0),.lit (.int .i64 0),.lit (.int .i64 0),.lit (.int .i64 0)],.agg [.lit (.int .i64 0),.lit (.int .i64 0),.lit (.int .i64 0),.lit (.string []),.nil],.nil,.nil,.lit (.int .i64 0)],[],[])) oA rfl oA) ?_
 intro W d c g h b e j _ l _;exact contract H enc W d c g h b e j l
def over:Rows.runTicketsUptoRow.holds Tryz.pinned (Rows.OpenSpec.upto Rows.runTicketsSpec) :=
 OpenClaim.holds_of_cond 7 f7 rfl rfl rfl rfl rfl rfl rfl ⟨rfl,rfl,rfl,rfl,rfl⟩ rfl rfl rfl rfl rfl oA func7 oA
  (jb1 oA) (by unfold Func.isWrapper;first|(rw[if_pos vA];kernel_rfl)|(rw[if_neg vA];exact⟨rfl,rfl⟩))
  (λc a H b _ F=>lifted c a H b F)
end Go.Proofs.YtgfdimkbfnpepaaGreat.runTickets
namespace Go.Proofs.YtgfdimkbfnpepaaGreat
set_option linter.all false
open Go.Proofs.Tryz
set_option maxRecDepth 100000
set_option maxHeartbeats 4000000
theorem runTickets_holds:Rows.RunTicketsUptoSaid:=runTickets.over
#print axioms runTickets_holds
