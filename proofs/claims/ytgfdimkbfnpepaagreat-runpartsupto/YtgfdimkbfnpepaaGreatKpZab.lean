import Derived.Test.YtgfdimkbfnpepaaGreatKpZaa
namespace Go.Proofs.YtgfdimkbfnpepaaGreat
set_option linter.all false
open Go.Proofs.Tryz
set_option maxRecDepth 100000
set_option maxHeartbeats 4000000
open Go.ChangeShapes Go.WideShapes Go.ChangeAt Go.RowKit
variable {ops:Array Oper}{q1 q2 rc:Array Value}{Q:Exit->Act->World->Prop}{p q t:Int}{f inn:Int->Bool}{rows:List (List Ty)}{rest:List Oper}{r ts y:List Ty}{vs vs' xs:List Value}{B H c cap g i l n r1 r2 size tb:Nat}{ok:Nat->Prop}{o:Oper}{a:Option Addr}{T:Ty}{e:TypeId}{x:Va}{u v v':Value}{W w w' w0:World}
structure qj (w0 w:World) (wb tb fb rb kw kf:Nat) (rc:Array Value) (v:Value) (vs:List Value):Prop where
 grown:w0.grownBy w none
 OV:w0.heap.size<=tb
 win:w.heap[wb]?=some (.cells #[.func (.func kw) #[] #[]] 148 (0,0))
 fin:w.heap[fb]?=some (.cells #[.func (.func kf) #[] #[]] 83 (0,0))
 tF:w.heap[tb]?=some (.cells #[v] 153 (0,0))
 row:w.heap[rb]?=some (.cells rc 54 (0,0))
 own:zJ w0.heap.size w v vs
def qj.alloc{d c fb rb b a:Nat}(h:qj w0 w d c fb rb b a rc v vs)(o:Obj):qj w0 (w.alloc o) d c fb rb b a rc v vs :=
 ⟨aJ h.grown (aK _),h.OV,aB h.win,aB h.fin,aB h.tF,aB h.row,xo h.own _⟩
def qj.call{e d fb rb c b:Nat}(h:qj w0 w e d fb rb c b rc v vs)(a:w.grownBy w' none):qj w0 w' e d fb rb c b rc v vs :=
 ⟨aJ h.grown a,h.OV,(a.block _ (ux h.win) ot).trans h.win,(a.block _ (ux h.fin) ot).trans h.fin,(a.block _ (ux h.tF) ot).trans h.tF,(a.block _ (ux h.row) ot).trans h.row,
  zp h.own a (by cases v.ownBlock<;>simp)⟩
def qj.push{d c fb rb l k:Nat}(h:qj w0 w d c fb rb l k rc v vs)(a:Gr w v w' v')(f:zJ w0.heap.size w' v' (vs++[u])):qj w0 (w'.setCell ⟨c,0,none⟩ v') d c fb rb l k rc v' (vs++[u]):=by
 have g:w'.heap[d]?=_:=(a.block (ux h.win) (aD h.own h.win ov)).trans h.win;have i:w'.heap[fb]?=_:=(a.block (ux h.fin) (aD h.own h.fin ov)).trans h.fin;have b:w'.heap[c]?=_:=(a.block (ux h.tF) (aD h.own h.tF ov)).trans h.tF;have j:w'.heap[rb]?=_:=(a.block (ux h.row) (aD h.own h.row ov)).trans h.row;refine⟨aX (dX h.grown h.own (qv _) a.1) h.OV _ _ _,h.OV,?_,?_,jg6 b,?_,jg3 f (λe=>aD f b ov e.symm) _⟩
 .rw[Below.heap_setCell _ _ _ _ (dC g b ov)];exact g
 .rw[Below.heap_setCell _ _ _ _ (dC i b ov)];exact i
 .rw[Below.heap_setCell _ _ _ _ (dC j b ov)];exact j
def qj.pop{j b fb rb i f g n cap:Nat}(h:qj w0 w j b fb rb i f rc (.slice (some ⟨g,0,none⟩) (n+1) cap) (vs++[u]))(d:vs.length=n):qj w0 (w.setCell ⟨b,0,none⟩ (.slice (some ⟨g,0,none⟩) n cap)) j b fb rb i f rc (.slice (some ⟨g,0,none⟩) n cap) vs:=by
 have a:=h.own;unfold zJ at a;rw[qS,d]at a;have c:=Av a;refine⟨aX h.grown h.OV _ _ _,h.OV,?_,?_,jg6 h.tF,?_,?_⟩
 .rw[Below.heap_setCell _ _ _ _ (dC h.win h.tF ov)];exact h.win
 .rw[Below.heap_setCell _ _ _ _ (dC h.fin h.tF ov)];exact h.fin
 .rw[Below.heap_setCell _ _ _ _ (dC h.row h.tF ov)];exact h.row
 .unfold zJ;rw[d];exact jg3 c (λe=>aD c h.tF ov e.symm) _
def qj.same{g f fb rb e d:Nat}(h:qj w0 w g f fb rb e d rc v vs)(c:qj w0 w' g f fb rb e d rc v' vs'):Same (λb=>b<w0.heap.size\/b=rb) w w':=by
 intro b o a _;refine qn ?_;rcases a with a|rfl
 .exact (c.grown.block b a ot).trans (h.grown.block b a ot).symm
 .exact c.row.trans h.row.symm
def Tv (ok:Nat->Prop) (w:World) (r:List Ty) (u:Value):Prop:=∃a c V,u =.slice a r.length c/\dw ok w r a V
def l6 (ok:Nat->Prop) (w:World) (rows:List (List Ty)) (vs:List Value):Prop:=rows.length=vs.length/\∀(i:Nat) (r:List Ty) (u:Value),rows[i]?=some r->vs[i]?=some u->Tv ok w r u
def l6.snoc(h:l6 ok w rows vs)(e:Tv ok w r u):l6 ok w (rows++[r]) (vs++[u]):=by
 refine⟨by simp[h.1],λi f g a b=>?_⟩
 by_cases d:i<rows.length
 .rw[jt d]at a;rw[jt (by rw[<-h.1];exact d)]at b;exact h.2 i f g a b
 .have c:i=rows.length:=by
   have:=(jj.1 a).1;simp at this;omega
  subst c;rw[js (qv _)]at a;rw[h.1,js (qv _)]at b;simp at a b;subst a;subst b;exact e
def l6.KL(h:l6 ok w (rows++[r]) (vs++[u])):l6 ok w rows vs/\Tv ok w r u:=by
 have c:rows.length=vs.length:=by have:=h.1;simp at this;exact this
 refine⟨⟨c,λi f g a b=>?_⟩,?_⟩
 .have d:=(jj.1 a).1;have e:=(jj.1 b).1;exact h.2 i f g (by rw[jt d];exact a) (by rw[jt e];exact b)
 .exact h.2 rows.length r u (by rw[js (qv _)];simp) (by rw[c,js (qv _)];simp)
def l6.last(h:l6 ok w rows vs)(g:0<vs.length):∃c r vs' u,rows=c++[r]/\vs=vs'++[u]/\l6 ok w c vs'/\Tv ok w r u:=by
 have i:rows≠[]:=by intro e;rw[e]at h;have:=h.1;simp at this;omega
 have j:vs≠[]:=by intro e;rw[e]at g;simp at g
 have d:=(qb4 i).symm;have f:=(qb4 j).symm;rw[d,f]at h;obtain⟨a,b⟩:=h.KL;exact⟨_,_,_,_,d,f,a,b⟩
def QG{I E fb rb r B:Nat}(o:qj w0 w I E fb rb r B rc v vs)(Q:Within r inn)(P:Mk B f)(T:l<=maxLen)(y:vs.length<=100000000)
 (ekw:∀args w,(callFunc r args).run prog w =.ok (.enter r args) w) (ekf:∀args w,(callFunc B args).run prog w =.ok (.enter B args) w) :
 Calls prog 186 #[bY t a l c,.pointer (some ⟨I,0,none⟩),.pointer (some ⟨E,0,none⟩),.pointer (some ⟨fb,0,none⟩)] w λe w'=>e =.returned (.bool (f t)) /\
  ∃v',qj w0 w' I E fb rb r B rc v' (vs++if inn t=true/\0<l then [.slice a l c]else []):=by
 unfold maxLen at T;obtain⟨HI,C,J⟩:=we o (Q t a l c (w.alloc (.cells #[.i t,.slice a l c] 54))) P;have M:=qd4 o.win;have N:=qd4 o.tF;have O:=qd4 o.fin;have l1:=ux o.win;have l2:=ux o.tF;have l3:=ux o.fin;clear o Q P
 by_cases q:inn t=true/\0<l
 .have U:(0:Int)<(l:Int):=by omega
  have m:=C.out;rw[if_pos q.1]at m;have j:=jh m;rw[if_pos q];clear C m q;unfold bY at j|-;go_enter func186,ntmps186;go_wp2_with fail;refine j.mono ?_;rintro e F ⟨rfl,p⟩;have d:=(HI.out.alloc (.cells #[.i t,.slice a l c] 54)).call p;have k:F.heap[w.heap.size]?=some (.cells #[.i t,.slice a l c] 54 (0,0)):=(p.block w.heap.size ot ot).trans (qT _ _);have h:=jh k;have Z:=qd4 d.tF;have b:=jh d;have A:=jh d.own;have S:=d.grown.size;clear p d k M N O HI;go_wp2_with (at_builtin;refine Y3 w0.heap.size vs a l c F v rfl (.tmp 13) (.tmp 15) rfl rfl rfl rfl A S y ?_;intro g cap w2 z x;have G:=jh z;have n:=jh x;clear z x;have D:=(n.out.block (ux b.tF) (aD b.own b.tF ov)).trans b.tF;have m3:=jd6 D;have m4:=qd4 D;have s:=jh (b.push n G);have V:=qd4 s.fin;have X:=xq ((Below.heap_setCell _ ⟨E,0,none⟩ (.slice (some ⟨g,0,none⟩) (vs.length+1) cap) _ (dC ((n.block (ux h) (aD b.own h ov)).trans h) D ov)).trans ((n.block (ux h) (aD b.own h ov)).trans h));clear D);refine (J t _).mono ?_;rintro e Y ⟨rfl,rfl⟩;go_wp2_with fail;go_ret;exact⟨rfl,_,s⟩
 .have m:∃K L,∀W,(W=w.alloc (.cells #[.i t,.slice a l c] 54))->Calls prog r #[bY t a l c] W λe w'=>e =.returned (.slice K 0 L)/\W.grownBy w' none:=by
   have m:=C.out
   by_cases H:inn t=true
   .have : l=0:=by
     by_cases R:0<l
     .exact absurd ⟨H,R⟩ q
     .omega
    subst this;rw[if_pos H]at m;exact⟨a,c,λW e=>by subst e;exact m⟩
   .rw[if_neg H]at m;exact⟨none,0,λW e=>by subst e;exact m⟩
  obtain⟨K,L,u⟩:=m;have j:=jh (u _ rfl);rw[if_neg q,qe3];clear C u q;unfold bY at j|-;go_enter func186,ntmps186;go_wp2_with fail;refine j.mono ?_;rintro e F ⟨rfl,p⟩;have d:=(HI.out.alloc (.cells #[.i t,.slice a l c] 54)).call p;have k:F.heap[w.heap.size]?=some (.cells #[.i t,.slice a l c] 54 (0,0)):=(p.block w.heap.size ot ot).trans (qT _ _);have X:=xq k;have V:=qd4 d.fin;have b:=jh d;clear p d k M N O HI;go_wp2_with fail;refine (J t _).mono ?_;rintro e Y ⟨rfl,rfl⟩;go_wp2_with fail;go_ret;exact⟨rfl,_,b⟩
def ent_all1:∀args w,(callFunc 186 args).run prog w =.ok (.enter 186 args) w:=λargs w=>OK
def aw (w:World) (t:Int) (a:Option Addr) (l c kw kf:Nat):World :=
 (((((w.alloc (.cells #[.i t,.slice a l c] 54)).alloc (.cells #[.func (.func kw) #[] #[]] 148)).alloc (.cells #[.func (.func kf) #[] #[]] 83)).alloc
   (.cells #[.i t,.slice a l c] 54)).alloc (.cells #[.slice (some ⟨w.heap.size+1+1+1,0,none⟩) 1 1] 27)).alloc (.cells #[.slice (some ⟨w.heap.size+1+1+1+1,0,none⟩) 1 1] 153)
def PV(w:World)(t:Int)(a:Option Addr)(l c b d:Nat):qj w (aw w t a l c b d) (w.heap.size+1) (w.heap.size+1+1+1+1+1) (w.heap.size+1+1) (w.heap.size+1+1+1) b d #[.i t,.slice a l c]
 (.slice (some ⟨w.heap.size+1+1+1+1,0,none⟩) 1 1) [.slice (some ⟨w.heap.size+1+1+1,0,none⟩) 1 1]:=by
 have e:=qT (w.alloc (.cells #[.i t,.slice a l c] 54)) (.cells #[.func (.func b) #[] #[]] 148);have f:=qT ((w.alloc (.cells #[.i t,.slice a l c] 54)).alloc (.cells #[.func (.func b) #[] #[]] 148)) (.cells #[.func (.func d) #[] #[]] 83);have g:=qT (((w.alloc (.cells #[.i t,.slice a l c] 54)).alloc (.cells #[.func (.func b) #[] #[]] 148)).alloc (.cells #[.func (.func d) #[] #[]] 83)) (.cells #[.i t,.slice a l c] 54);have h:=qT ((((w.alloc (.cells #[.i t,.slice a l c] 54)).alloc (.cells #[.func (.func b) #[] #[]] 148)).alloc (.cells #[.func (.func d) #[] #[]] 83)).alloc (.cells #[.i t,.slice a l c] 54))
  (.cells #[.slice (some ⟨w.heap.size+1+1+1,0,none⟩) 1 1] 27)
 have j:=qT (((((w.alloc (.cells #[.i t,.slice a l c] 54)).alloc (.cells #[.func (.func b) #[] #[]] 148)).alloc (.cells #[.func (.func d) #[] #[]] 83)).alloc (.cells #[.i t,.slice a l c] 54)).alloc
  (.cells #[.slice (some ⟨w.heap.size+1+1+1,0,none⟩) 1 1] 27)) (.cells #[.slice (some ⟨w.heap.size+1+1+1+1,0,none⟩) 1 1] 153)
 simp only[yb]at e f g h j;refine⟨aJ (aK _) (aJ (aK _) (aJ (aK _) (aJ (aK _) (aJ (aK _) (aK _))))),od,?_,?_,j,?_,?_⟩
 .exact aB (aB (aB (aB e)))
 .exact aB (aB (aB f))
 .exact aB (aB g)
 .exact⟨rfl,.inr ⟨w.heap.size+1+1+1+1,1,#[.slice (some ⟨w.heap.size+1+1+1,0,none⟩) 1 1],rfl,od,aB h,ot,OS,rfl,rfl⟩⟩
def Sr (w0 W1:World) (kw kf:Nat) (rc:Array Value) (inn f:Int->Bool) (T:Ty) (n:Nat) (wr:World):Prop :=
 ∃(v:Value) (vs:List Value) (rows:List (List Ty)),qj w0 wr (w0.heap.size+1) (w0.heap.size+1+1+1+1+1) (w0.heap.size+1+1) (w0.heap.size+1+1+1) kw kf rc v vs /\
  l6 (λb=>b<w0.heap.size\/b=w0.heap.size+1+1+1) W1 rows vs/\leftOf rows=n/\n<=T.size+1/\rows.all (ow inn f)=sW inn f T
def Bf (f:Int->Bool) (r:List Ty) (i:Nat):Bool:=match r[i]? with
 | some x=>f x.t
 | none=>true
def gI(g o x:Nat):(⟨g,o,none⟩:Addr).add x=⟨g,o+x,none⟩:=oY
def mg(h:w.ownsRow B e size v n xs)(d:n=0):∃a c,v =.slice a 0 c:=by
 rcases h.2 with⟨rfl,_⟩|⟨g,cap,b,rfl,_⟩
 .exact⟨_,_,rfl⟩
 .exact⟨_,_,by rw[d]⟩
def QX(h:w.ownsRow B e size (.slice (some ⟨g,0,none⟩) n cap) n xs):n<=cap/\cap<=maxLen:=by
 rcases h.2 with⟨a,_⟩|⟨i,b,c,a,_,_,d,f,_⟩
 .simp at a
 .simp only[ke,true_and]at a;rw[a.2];exact⟨d,f⟩
def Hz{x:Ty}{V:Nat->Value}(h:l6 ok W rows vs)(g:dw ok W x.args a V) :
 l6 ok W (rows++pushes inn x) (vs++if inn x.t=true/\0<x.args.length then [.slice a x.args.length c]else []):=by
 by_cases b:inn x.t=true/\0<x.args.length
 .have e:pushes inn x=[x.args]:=by
   obtain⟨t,args⟩:=x;have d:inn t=true:=b.1;have f:0<args.length:=b.2
   cases args with
   | nil=>simp at f
   | cons y l=>simp[pushes,rowOf,d,Ty.args]
  rw[if_pos b,e];exact h.snoc ⟨a,c,V,rfl,g⟩
 .have e:pushes inn x=[]:=by
   obtain⟨t,args⟩:=x
   cases args with
   | nil=>simp[pushes,rowOf]
   | cons y l =>
    have d:¬inn t=true:=λh=>b ⟨h,by simp[Ty.args]⟩;simp[pushes,d]
  rw[if_neg b,e];simpa using h
def Al{p l:Nat}(hw:Within p inn)(hf:Mk l f)(aa:∀args w,(callFunc p args).run prog w =.ok (.enter p args) w)(Z:∀args w,(callFunc l args).run prog w =.ok (.enter l args) w)
 (hL:aH (· < w0.heap.size) w0 T v) (hz:T.size<=50000000) :
 Calls prog 140 #[v,.func (.func p) #[] #[],.func (.func l) #[] #[]] w0 λe w'=>e =.returned (.bool (sW inn f T))/\w0.grownBy w' none:=by
 obtain⟨a,c,V,rfl,it,hR⟩:=hL.inv;obtain⟨μ,hμ⟩:=mM (Sr w0 (aw w0 T.t a T.args.length c p l) p l #[.i T.t,.slice a T.args.length c] inn f T);have h0:Sr w0 (aw w0 T.t a T.args.length c p l) p l #[.i T.t,.slice a T.args.length c] inn f T (T.size+1) (aw w0 T.t a T.args.length c p l):=by
  have q:=PV w0 T.t a T.args.length c p l;refine⟨_,_,[[T]],q,⟨rfl,?_⟩,by simp[leftOf,tysizes],qv _,by simp[ow]⟩;intro i r u F D
  cases i with
  | zero =>
   simp at F D;subst F;subst D;refine⟨some ⟨w0.heap.size+1+1+1,0,none⟩,1,λ_=>bY T.t a T.args.length c,rfl,OS,λi y=>?_,λi y=>?_⟩
   .have : i=0:=by simpa using y
    subst this;exact⟨_,0,rfl,.inr rfl,T.t,a,T.args.length,c,rfl,xq q.row,wy q.row⟩
   .have : i=0:=by simpa using y
    subst this;have hs:Same (· < w0.heap.size) w0 (aw w0 T.t a T.args.length c p l):=λb o H _=>qn (q.grown.block b H ot);exact (hL.same hs).ae (λb _ H=>.inl H)
  | succ i=>simp at F
 have an:T.args.length<=maxLen:=hR.1;unfold maxLen at an;have H0:=jh h0;have HM:=jh hμ;clear h0 hμ hR hL it;unfold bY;go_enter func140,ntmps140;go_wp2_with fail;go_loopw [9] (λ_ wr=>∃n,Sr w0 (aw w0 T.t a T.args.length c p l) p l #[.i T.t,.slice a T.args.length c] inn f T n wr) (λ_ wr=>μ wr)
 case atStart=>exact⟨_,H0⟩
 case round =>
  obtain⟨n0,K⟩:=hrel;obtain⟨v1,vs,rows,q,d,hn,S,j⟩:=(HM.out wr n0 K).1;have c1:=qd4 q.tF;have f1:=jd6 q.tF
  by_cases hv:vs.length=0
  .obtain⟨a0,ao,rfl⟩:=mg q.own hv;have E:sW inn f T=true:=by
    have F:=d.1;have D:rows=[]:=qd7.1 od;rw[D]at j;exact j.symm
   have HR:=jh E;have HI:=jh q;clear q d hn S j E K;go_wp2_with fail;go_ret;exact⟨by rw[HR.out];rfl,HI.grown⟩
  .obtain⟨h,r,vs',u,rfl,rfl,z,M,N,Vr,rfl,B⟩:=d.last od;have J:(vs'++[Value.slice M r.length N]).length=vs'.length+1:=by simp
   have A:=jb3 q.own od;rw[J]at A;obtain⟨g,cap,rfl,_,_⟩:=A;have R:vs'.length+1<=cap/\cap<=maxLen:=by have ho:=q.own;unfold zJ at ho;rw[J]at ho;exact QX ho
   have ah:vs'.length<=cap:=od
   have ai:¬cap=0:=od
   have aj:wr.cell? ⟨g,vs'.length,none⟩=some (.slice M r.length N):=by have:=yy q.own (g:=g) rfl vs'.length (.slice M r.length N) ot;rw[gI,qa4]at this;exact this
   have O:=q.pop rfl;have ad:vs'.length+1<=50000001:=by have F:=d.1;have D:=GU (h++[r]);omega
   have I:leftOf h+(tysizes r+1)=μ wr:=by rw[<-hn,kG,CR]
   have hE:Calls prog 97 #[.slice M r.length N,.func (.func 186) #[] #[.pointer (some ⟨w0.heap.size+1,0,none⟩),.pointer (some ⟨w0.heap.size+1+1+1+1+1,0,none⟩),.pointer (some ⟨w0.heap.size+1+1,0,none⟩)]]
    (wr.setCell ⟨w0.heap.size+1+1+1+1+1,0,none⟩ (.slice (some ⟨g,0,none⟩) vs'.length cap)) λe w'=>(e =.returned (.bool true)/\∃m,m<μ wr/\Sr w0 (aw w0 T.t a T.args.length c p l) p l #[.i T.t,.slice a T.args.length c] inn f T m w') \/
     (e =.returned (.bool false)/\sW inn f T=false/\w0.grownBy w' none):=by
    refine (yQ 186 _ r.length M N Vr (Bf f r) (λi w=>∃L k,qj w0 w (w0.heap.size+1) (w0.heap.size+1+1+1+1+1) (w0.heap.size+1+1) (w0.heap.size+1+1+1) p l #[.i T.t,.slice a T.args.length c] L k /\
     l6 (λb=>b<w0.heap.size\/b=w0.heap.size+1+1+1) (aw w0 T.t a T.args.length c p l) (h++(r.take i).flatMap (pushes inn)) k) (λw=>w0.grownBy w none) B.1 ent_all1 ?_ ?_ ?_ _ ⟨_,vs',O,by simpa using z⟩).mono ?_
    .rintro i w y ⟨L,k,s,_⟩;exact ((B.2.1 i y).same ((PV w0 T.t a T.args.length c p l).same s)).ae (λ_ _ _=>trivial)
    .rintro i w o ⟨L,k,s,G⟩;exact⟨L,k,s.alloc o,G⟩
    .rintro i w y ⟨L,k,s,G⟩;obtain⟨ax,cx,Vx,ab,_,Q⟩:=(B.2.2 i y).inv;have U:k.length<=100000000:=by
      have h5:=G.1;have h6:=GU (h++(r.take i).flatMap (pushes inn));have h7:=mZ inn (r.take i);have h8:=sQ r i;rw[kG]at h6;omega
     rw[ab];refine (QG s hw hf Q.1 U aa Z).mono ?_;rintro e w' ⟨rfl,v',P⟩;have ak:Bf f r i=f (r[i]).t:=by simp[Bf,qt y]
     rw[ak];refine⟨rfl,λ_=>⟨v',_,P,?_⟩,λ_=>P.grown⟩;rw[xI _ _ _ y,<-ub];exact Hz G Q
    .rintro e w' (⟨rfl,⟨L,k,s,G⟩,H⟩|⟨i,y,H,rfl,X⟩)
     .rw[qe2]at G;have W:∀x∈r,f x.t=true:=by
       intro x hx;obtain⟨i,y,rfl⟩:=ye hx;have:=H i y;simpa[Bf,qt y]using this
      have h7:=mZ inn r;refine .inl ⟨rfl,leftOf (h++r.flatMap (pushes inn)),?_,L,k,_,s,G,rfl,?_,?_⟩
      .rw[kG];omega
      .rw[kG];omega
      .rw[<-j,qc6,qc6,<-xh inn f r W];simp
     .refine .inr ⟨rfl,?_,X⟩;have C:f (r[i]).t=false:=by simpa[Bf,qt y]using H
      rw[<-j,qc6];simp[PR inn f r i y C]
   have HE:=jh hE;have aq:(vs'.length:Int)<=4611686018427387904:=od
   clear hz ad hv R hE O q d z B hn S j K J I;go_wp2_with fail;refine HE.mono ?_;rintro e w2 (⟨rfl,hm⟩|⟨rfl,C,X⟩)
   .have Y:=jh hm;clear hm;go_wp2_with fail;obtain⟨m,F,D⟩:=Y.out;go_roundw
    case rel=>exact⟨m,D⟩
    case measure=>exact qf3 (HM _ m D).2 F
   .have HN:=jh C;have HG:=jh X;clear C X;go_wp2_with fail;go_ret;exact⟨by rw[HN.out];rfl,HG⟩
def aH.grow(h:aH (· < w.heap.size) w T v)(c:w.grownBy w' none):aH (· < w'.heap.size) w' T v :=
 (h.same (w':=w') (λb o a _=>qn (c.block b a ot))).ae (λb a _=>a)
def tV(d:aH (· < w.heap.size) w T v)(h:T.size<=50000000) :
 Calls prog 99 #[v] w λe w'=>e =.returned (.bool (oF T))/\w.grownBy w' none:=by
 obtain⟨a,c,V,rfl,l,k⟩:=d.inv;have f:=jh (Al made_any comp1_any (λb w=>OK) (λb w=>OK) (d.grow (aK (.cells #[.i T.t,.slice a T.args.length c] 54))) h);clear d k l h;unfold bY at f|-;go_enter func99,ntmps99;go_wp2_with fail;refine f.mono ?_;rintro e m ⟨rfl,g⟩;have j:=jh g;clear g;go_wp2_with fail;go_ret;exact⟨rfl,aJ (aK _) j⟩
def Jp(d:aH (· < w.heap.size) w T v)(h:T.size<=50000000) :
 Calls prog 104 #[v] w λe w'=>e =.returned (.bool (A7 T))/\w.grownBy w' none:=by
 obtain⟨a,c,V,rfl,l,k⟩:=d.inv;have f:=jh (Al held_any copy1_any (λb w=>OK) (λb w=>OK) (d.grow (aK (.cells #[.i T.t,.slice a T.args.length c] 54))) h);clear d k l h;unfold bY at f|-;go_enter func104,ntmps104;go_wp2_with fail;refine f.mono ?_;rintro e m ⟨rfl,g⟩;have j:=jh g;clear g;go_wp2_with fail;go_ret;exact⟨rfl,aJ (aK _) j⟩
def BQ(d:aH (· < w.heap.size) w T v)(h:T.size<=50000000) :
 Calls prog 112 #[v] w λe w'=>e =.returned (.bool (eB T))/\w.grownBy w' none:=by
 obtain⟨a,c,V,rfl,l,k⟩:=d.inv;have f:=jh (Al made_any pack1_any (λb w=>OK) (λb w=>OK) (d.grow (aK (.cells #[.i T.t,.slice a T.args.length c] 54))) h);clear d k l h;unfold bY at f|-;go_enter func112,ntmps112;go_wp2_with fail;refine f.mono ?_;rintro e m ⟨rfl,g⟩;have j:=jh g;clear g;go_wp2_with fail;go_ret;exact⟨rfl,aJ (aK _) j⟩
def KA(d:aH (· < w.heap.size) w T v)(h:T.size<=50000000) :
 Calls prog 114 #[v] w λe w'=>e =.returned (.bool (storeT T))/\w.grownBy w' none:=by
 obtain⟨a,c,V,rfl,l,k⟩:=d.inv;have f:=jh (Al held_any store1_any (λb w=>OK) (λb w=>OK) (d.grow (aK (.cells #[.i T.t,.slice a T.args.length c] 54))) h);clear d k l h;unfold bY at f|-;go_enter func114,ntmps114;go_wp2_with fail;refine f.mono ?_;rintro e m ⟨rfl,g⟩;have j:=jh g;clear g;go_wp2_with fail;go_ret;exact⟨rfl,aJ (aK _) j⟩
def rT (args:List Ty) (i:Nat):Bool:=match args[i]? with
 | some x=>keyedF x
 | none=>true
def NC{args:List Ty}(h:∀i,i<args.length->rT args i=true):keyedFs args=true:=by rw[uu,zr];intro x b;obtain⟨i,a,rfl⟩:=ye b;simpa[rT,qt a]using h i a
def QC{args:List Ty}(hi:i<args.length)(h:rT args i=false):keyedFs args=false:=by
 cases a:keyedFs args with
 | false=>rfl
 | true =>
  rw[uu,zr]at a;have:=a args[i] (zj hi);simp[rT,qt hi,this]at h
def ND(hL:aH (· < w.heap.size) w T v):∀(d:Nat) (n:World),w.grownBy n none->j5 d T=true->T.size<=50000000 ->
 Calls prog 66 #[v] n λe w'=>e =.returned (.bool (keyedF T))/\n.grownBy w' none:=by
 induction hL with
 | @mk t f a c V Y aa it L R U =>
  intro d n j F S;simp only[j5,qu,ki]at F;obtain⟨⟨_,_,r⟩,q⟩:=F;rw[jT,zr]at q;rw[Ty.size]at S;have P:∀s,n.grownBy s none->Calls prog 97 #[.slice a f.length c,.func (.func 66) #[] #[]] s λe w'=>e =.returned (.bool (keyedFs f))/\n.grownBy w' none:=by
   intro s g;refine (yQ 66 #[] f.length a c V (rT f) (λ_ wr=>n.grownBy wr none) (λwr=>n.grownBy wr none) Y ent_keyed ?_ ?_ ?_ _ g).mono ?_
   .intro i wr u p;exact ((L i u).same (w':=wr) (λb o C _=>qn ((aJ j p).block b C ot))).ae (λ_ _ _=>trivial)
   .intro i wr o p;exact aJ p (aK _)
   .intro i wr u p;rw[Array.append_empty];refine (U i u (d+1) wr (aJ j p) (q _ (zj u)) (by have:=jS (zj u);omega)).mono ?_;rintro e w' ⟨rfl,M⟩;have J:rT f i=keyedF f[i]:=by simp[rT,qt u]
    rw[J];exact⟨rfl,λ_=>aJ p M,λ_=>aJ p M⟩
   .rintro e w' (⟨rfl,p,C⟩|⟨i,u,C,rfl,M⟩)
    .rw[NC C];exact⟨rfl,p⟩
    .rw[QC u C];exact⟨rfl,M⟩
  unfold maxLen at Y;have W:=jh P
  by_cases N:t=13\/t=15
  .have h:0<f.length:=by
    unfold bT at r;rcases N with rfl|rfl<;>simp at r<;>omega
   obtain⟨z,H,t0,a0,l0,c0,rfl,D,G,X,J⟩:=(L 0 h).cells;have B:=R 0 h;have K:∀s,w.grownBy s none->Calls prog 99 #[V 0] s λe w'=>e =.returned (.bool (oF f[0]))/\s.grownBy w' none:=λs g=>tV (B.grow g) (by have:=jS (zj h);omega);rw[G]at K;unfold bY at K;have m:keyedF (.nd t f)=(oF f[0]&&keyedFs f):=by
    have e2:headComp f=oF f[0]:=by
     cases f with
     | nil=>simp at h
     | cons x l=>rfl
    simp[keyedF,uZ,N,e2]
   have ab:(n.alloc (.cells #[.i t,.slice (some ⟨z,H,none⟩) f.length c] 54)).cell? ⟨z,H,none⟩=some (.i t0):=by rw[qn ((aJ j (aK _)).block z D ot)];simpa using X
   have ad:(n.alloc (.cells #[.i t,.slice (some ⟨z,H,none⟩) f.length c] 54)).cell? ⟨z,H+1,none⟩=some (.slice a0 l0 c0):=by rw[qn ((aJ j (aK _)).block z D ot)];simpa using J
   have Q:(0:Int)<(f.length:Int):=od
   have Z:=jh (K _ (aJ j (aK (.cells #[.i t,.slice (some ⟨z,H,none⟩) f.length c] 54))));have I:=jh m;clear K P U L R q B m X J G r S;unfold bY;generalize oF f[0]=O at *;rcases N with rfl|rfl
   all_goals
    cases O
    all_goals
     go_enter func66,ntmps66;go_wp2_with fail;refine Z.mono ?_;rintro e s ⟨rfl,g⟩;have E:=(g.block n.heap.size ot ot).trans (qT _ _);have x1:=wy E;have A:=jh g;clear g E;go_wp2_with fail
   all_goals first
    | (go_ret;exact⟨by rw[I.out];rfl,aJ (aK _) A⟩)
    | (refine (W _ (aJ (aK _) A)).mono ?_;rintro e w4 ⟨rfl,k⟩
       have y:=jh k;clear k;go_wp2_with fail;go_ret;exact⟨by rw[I.out];simp,y⟩)
  .have m:keyedF (.nd t f)=keyedFs f:=by simp[keyedF,uZ,N]
   have I:=jh m;have k1:(t==13)=false:=oB
   have k2:(t==15)=false:=oB
   clear P U L R q m r S;unfold bY;go_enter func66,ntmps66;go_wp2_with fail;refine (W _ (aK _)).mono ?_;rintro e w4 ⟨rfl,k⟩;have y:=jh k;clear k;go_wp2_with fail;go_ret;exact⟨by rw[I.out];rfl,y⟩
def wG{b:Nat}(h:w.grownBy W none)(e:w.heap.size<=b)(a:W.grownBy w' (some b)):w.grownBy w' none :=
 ⟨a.os.trans h.os,a.tape.trans h.tape,a.output.trans h.output,kh h.size a.size,λi c d=>(a.block i (jz c h.size) oB).trans (h.block i c d)⟩
def dE(h:zt T=true):j5 1 T=true/\T.size<=300/\keyedF T=true:=by simp only[zt,qu,ki]at h;exact⟨h.1.1,h.1.2,h.2⟩
def nT(x:aH (· < w.heap.size) w T v) :
 Calls prog 45 #[v] w λe w'=>e =.returned (.bool (zt T))/\w.grownBy w' none:=by
 obtain⟨a,c,V,rfl,F,E⟩:=x.inv;have j:w.grownBy ((w.alloc (.cells #[.i T.t,.slice a T.args.length c] 54)).alloc (.cells #[.i 0] 3)) none:=aJ (aK _) (aK _);have f:jl ((w.alloc (.cells #[.i T.t,.slice a T.args.length c] 54)).alloc (.cells #[.i 0] 3)) (w.heap.size+1) 0:=by have:=qT (w.alloc (.cells #[.i T.t,.slice a T.args.length c] 54)) (.cells #[.i 0] 3);rw[yb]at this;exact this
 have q:aH (· ≠ w.heap.size+1) ((w.alloc (.cells #[.i T.t,.slice a T.args.length c] 54)).alloc (.cells #[.i 0] 3)) T (bY T.t a T.args.length c) :=
  (x.same (λb o A _=>qn (j.block b A ot))).ae (λb _ A=>by have : b<w.heap.size:=A;show b≠_;omega)
 have hF:=Jy q 1 0 _ (Same.refl _ _) (qv _) f od od;have z:Hid (formedAt 1 0 T=true->∀s,w.grownBy s none->Calls prog 66 #[bY T.t a T.args.length c] s λe w'=>e =.returned (.bool (keyedF T))/\s.grownBy w' none):=by intro h s B;simp only[formedAt,qu,ki]at h;exact ND x 1 s B h.1 od
 have d:zt T=(formedAt 1 0 T&&keyedF T):=by simp[zt,formedAt]
 have m:=jh d;have n:=jh j;clear x E F f q d j;unfold rA at hF;rw[show (((1:Nat)):Int)=1 from rfl]at hF;generalize formedAt 1 0 T=D at *
 cases D with
 | false =>
  have l:=jh hF;clear hF z;unfold bY at l|-;go_enter func45,ntmps45;go_wp2_with fail;refine l.mono ?_;rintro e C ⟨rfl,k,_⟩;have u:=jh (wG n od k);clear k;go_wp2_with fail;go_ret;exact⟨by rw[m.out];rfl,u⟩
 | true =>
  have l:=jh hF;have p:=jh (z rfl);clear hF z;unfold bY at l p|-;go_enter func45,ntmps45;go_wp2_with fail;refine l.mono ?_;rintro e C ⟨rfl,k,_⟩;have g:C.heap[w.heap.size]?=some (.cells #[.i T.t,.slice a T.args.length c] 54 (0,0)):=(k.block w.heap.size oB ot).trans (aB (qT _ _));have H:=xq g;have I:=wy g;have u:=jh (wG n od k);clear k g;go_wp2_with fail;refine (p _ u).mono ?_;rintro e G ⟨rfl,r⟩;have y:=jh r;clear r;go_wp2_with fail;go_ret;exact⟨by rw[m.out];simp,aJ u y⟩
def rO:(prog.info? 54).map (λi=>(i.zero,i.size,i.bytes))=some (some (.agg #[.i 0,.n0]),2,32):=oA
def tyCells:Value->List Value
 | .agg xs=>xs.toList
 | _=>[]
def bX (vs:List Value):List Value:=vs.flatMap tyCells
def wS (B:Nat) (w:World) (v:Value) (vs:List Value):Prop:=w.ownsRow B 54 2 v vs.length (bX vs)
def dx(a b:List Value):bX (a++b)=bX a++bX b:=by simp[bX]
def Y4{a:Act}(B:Nat)(vs:List Value)(k:Int)(sa:Option Addr)(sl sc:Nat)(w0:World)(v:Value)(c:o.guard=none)(s x:Operand)
 (ho:o.op =.call { callee:=.builtin .append,args:=#[s,x],argTypes:=#[27,27] }) (hs:a.eval s=v) (hx:a.eval x =.slice (some ⟨H,0,none⟩) 1 1) (hH:w0.heap.size=H)
 (hown:wS B w0 v vs) (hB:B<=w0.heap.size) (hlen:vs.length<=1000000000000)
 (h:∀g cap w',wS B w' (.slice (some ⟨g,0,none⟩) (vs.length+1) cap) (vs++[bY k sa sl sc])->Gr w0 v w' (.slice (some ⟨g,0,none⟩) (vs.length+1) cap)->wpList prog ops Q rest (a.put o.dst (.slice (some ⟨g,0,none⟩) (vs.length+1) cap)) w') :
 wpList prog ops Q (o::rest) a (w0.alloc (.cells #[.i k,.slice sa sl sc] 54)):=by
 obtain⟨p,n,d,e,f⟩:=qg1 rO;subst hH;refine jb2 _ c s x 27 ho B 54 p _ 2 32 underlying27 n d e f rfl ov v vs.length (bX vs) hs (xo hown _) ⟨w0.heap.size,0,none⟩ 1 1 [.i k,.slice sa sl sc] hx rfl ?_ ?_ ov ?_ ?_ ?_ _ rfl ?_
 .exact qg0 (w:=w0.alloc _) (B:=w0.heap.size) (cs:=#[.i k,.slice sa sl sc]) (qT _ _)
 .intro u j;simp at j;rcases j with rfl|rfl<;>rfl
 .unfold maxLen;omega
 .omega
 .simp;omega
 .intro g cap w' l m b _;refine h g cap w' ?_ ?_
  .unfold wS;rw[dx,qS];exact l
  .refine Gr.trans (Gr.alloc (Gr.refl w0 v) _) ⟨m,?_⟩;rcases b with b|b
   .exact .inl b.symm
   .exact .inr ⟨g,rfl,od⟩
def EX{a:Act}{K:Act->World->Prop}{E:Prop}(B:Nat)(vs:List Value)(k:Int)(sa:Option Addr)(sl sc:Nat)(w0:World)(v:Value)(c:o.guard=none)(s x:Operand)
 (ho:o.op =.call { callee:=.builtin .append,args:=#[s,x],argTypes:=#[27,27] }) (hs:a.eval s=v) (hx:a.eval x =.slice (some ⟨H,0,none⟩) 1 1) (hH:w0.heap.size=H)
 (hown:wS B w0 v vs) (hB:B<=w0.heap.size) (hlen:vs.length<=1000000000000)
 (h:∀g cap w',wS B w' (.slice (some ⟨g,0,none⟩) (vs.length+1) cap) (vs++[bY k sa sl sc])->Gr w0 v w' (.slice (some ⟨g,0,none⟩) (vs.length+1) cap)->K (a.put o.dst (.slice (some ⟨g,0,none⟩) (vs.length+1) cap)) w') :
 if Region.wanted o (yielded ops a.tmps)=true then Oper.wp prog o a (w0.alloc (.cells #[.i k,.slice sa sl sc] 54)) K Q else E:=by
 have p:Region.wanted o (yielded ops a.tmps)=true:=by simp[Region.wanted,c]
 rw[if_pos p];obtain⟨q,n,d,e,f⟩:=qg1 rO;subst hH;refine wp_append_lies _ s x 27 ho B 54 q _ 2 32 underlying27 n d e f rfl ov v vs.length (bX vs) hs (xo hown _) ⟨w0.heap.size,0,none⟩ 1 1 [.i k,.slice sa sl sc] hx rfl ?_ ?_ ov ?_ ?_ ?_ _ rfl ?_
 .exact qg0 (w:=w0.alloc _) (B:=w0.heap.size) (cs:=#[.i k,.slice sa sl sc]) (qT _ _)
 .intro u j;simp at j;rcases j with rfl|rfl<;>rfl
 .unfold maxLen;omega
 .omega
 .simp;omega
 .intro g cap w' l m b _;refine h g cap w' ?_ ?_
  .unfold wS;rw[dx,qS];exact l
  .refine Gr.trans (Gr.alloc (Gr.refl w0 v) _) ⟨m,?_⟩;rcases b with b|b
   .exact .inl b.symm
   .exact .inr ⟨g,rfl,od⟩
structure gz (H:Nat) (w:World) (v:Value) (ts:List Ty) (vs:List Value):Prop where
 own:wS H w v vs
 len:vs.length=ts.length
 lies:∀(i:Nat) (t:Ty) (u:Value),ts[i]?=some t->vs[i]?=some u->aH (λb=>H<=b/\some b≠v.ownBlock) w t u
def gz.nil(H:Nat)(w:World):gz H w (.n0) [] []:=⟨qa2 _ _ _ _,rfl,λi t u h=>by simp at h⟩
def gz.keep{rb:Nat}(h:gz H w v ts vs)(c:w.grownBy w' (some rb))(e:rb<H):gz H w' v ts vs:=by
 refine⟨zp h.own c ?_,h.len,λi t u f g=>(h.lies i t u f g).same ?_⟩
 .cases j:v.ownBlock with
  | none=>exact .inl rfl
  | some k=>right;have:=(kp h.own k j).1;simp;omega
 .intro b o d a;exact qn (c.block b a (by simp;have:=d.1;omega))
def gz.push{t:Ty}{S:Nat}(h:gz H w v ts vs)(D:H<=S)(m:∀k,v.ownBlock=some k->k<S)(y:aH (S <= ·) w t u)(p:Gr w v w' v')(B:wS H w' v' (vs++[u])):gz H w' v' (ts++[t]) (vs++[u]):=by
 have n:∀t u,aH (λb=>H<=b/\some b≠v.ownBlock) w t u->aH (λb=>H<=b/\some b≠v'.ownBlock) w' t u:=by
  intro t u A;have x:=A.ae (ok':=λb=>H<=b/\some b≠v.ownBlock/\some b≠v'.ownBlock) (λb a j=>⟨j.1,j.2,by
   rcases p.2 with e|⟨g,e,z⟩
   .rw[e];exact j.2
   .rw[e];simp;omega⟩)
  refine (x.same (w':=w') ?_).ae (λb _ a=>⟨a.1,a.2.2⟩);intro b o a l;exact qn (p.block l a.2.1)
 refine⟨B,by simp[h.len],λi r s c d=>n r s ?_⟩
 by_cases q:i<ts.length
 .rw[jt q]at c;rw[jt (by rw[h.len];exact q)]at d;exact h.lies i r s c d
 .have f:i=ts.length:=by
   have:=(jj.1 c).1;simp at this;omega
  subst f;rw[js (qv _)]at c;rw[<-h.len,js (qv _)]at d;simp at c d;subst c;subst d;exact y.ae (λb _ a=>⟨by have : S<=b:=a;omega,λe=>by have C:=m b e.symm;have : S<=b:=a;omega⟩)
def flatT_get:∀(vs:List Value),(∀u∈vs,(tyCells u).length=2)->∀(i j:Nat) (u:Value),vs[i]?=some u->j<2->(bX vs)[i*2+j]?=(tyCells u)[j]?
 | [],_,i,j,u,h,_=>by simp at h
 | x::vs,a,0,j,u,h,c=>by simp at h;subst h;have:=a x ot;simp only[bX,qd5];rw[jt od];simp
 | x::vs,a,i+1,j,u,h,c=>by have b:=a x ot;have:=flatT_get vs (λu d=>a u (by simp[d])) i j u (by simpa using h) c;simp only[bX,qd5]at this|-;rw[js od,b,show (i+1)*2+j - 2=i*2+j from by omega];exact this
def aH.bY{t:Ty}(h:aH ok w t u):∃k a l c,u=bY k a l c:=by cases h;exact⟨_,_,_,_,rfl⟩
def gz.done(h:gz H w v ts vs) :
 ∃(a:Option Addr) (c:Nat) (V:Nat->Value),v =.slice a ts.length c/\(∀i,i<ts.length->rC (H <= ·) w a i (V i))/\(∀i (hi:i<ts.length),aH (H <= ·) w ts[i] (V i)):=by
 have E:=h.len;have f:∀i (hi:i<ts.length),∃u,vs[i]?=some u/\aH (H <= ·) w ts[i] u:=by
  intro i hi;have y:i<vs.length:=od
  exact⟨vs[i],qt y,(h.lies i ts[i] vs[i] (qt hi) (qt y)).ae (λb _ A=>A.1)⟩
 have q:∀u∈vs,(tyCells u).length=2:=by intro u G;obtain⟨i,hi,rfl⟩:=ye G;obtain⟨u,e,m⟩:=f i od;rw[qt hi]at e;simp at e;obtain⟨k,a,l,c,o⟩:=m.bY;rw[e,o];rfl
 have s:=h.own;unfold wS at s;rcases s.2 with⟨rfl,J⟩|⟨g,cap,z,rfl,r,K,F,B,C,t⟩
 .have p:ts.length=0:=by omega
  exact⟨none,0,λ_=>.i 0,by rw[p],λi hi=>od,λi hi=>od⟩
 .refine⟨some ⟨g,0,none⟩,cap,λi=>(vs[i]?).getD (.i 0),by rw[E],λi hi=>?_,λi hi=>?_⟩
  .obtain⟨u,e,m⟩:=f i hi;obtain⟨k,a,l,c,o⟩:=m.bY;have d:∀j x,j<2->(tyCells u)[j]?=some x->w.cell? ⟨g,i*2+j,none⟩=some x:=by
    intro j x D I;have:=yy s (g:=g) rfl (i*2+j) x (by rw[flatT_get vs q i j u e D];exact I);have n:(⟨g,0,none⟩:Addr).add (i*2+j)=⟨g,i*2+j,none⟩:=oY
    rwa [n]at this
   rw[o]at d;refine⟨g,0,rfl,r,k,a,l,c,by show (vs[i]?).getD _=_;rw[e];exact o,?_,?_⟩
   .have:=d 0 _ od rfl;simpa using this
   .have:=d 1 _ od rfl;simpa using this
  .obtain⟨u,e,m⟩:=f i hi;show aH _ _ _ ((vs[i]?).getD _);rw[e];exact m
mutual
def sameT:Ty->Ty->Bool
 | .nd t xs,.nd u ys=>decide (t=u)&&sameTs xs ys
def sameTs:List Ty->List Ty->Bool
 | [],[]=>true
 | a::xs,b::ys=>sameT a b&&sameTs xs ys
 | [],_::_=>false
 | _::_,[]=>false
end
mutual
def sameT_refl:∀t,sameT t t=true
 | .nd t a=>by simp[sameT,sameTs_refl a]
def sameTs_refl:∀l,sameTs l l=true
 | []=>by simp[sameTs]
 | t::ts=>by simp[sameTs,sameT_refl t,sameTs_refl ts]
end
def sameTs_len:∀{a b:List Ty},sameTs a b=true->a.length=b.length
 | [],[],_=>rfl
 | _::_,[],h=>by simp[sameTs]at h
 | [],_::_,h=>by simp[sameTs]at h
 | a::xs,b::c,h=>by simp only[sameTs,qu]at h;simp[sameTs_len h.2]
def mX (p:Ty×Ty):List Ty×List Ty:=(p.1.args,p.2.args)
def sJ (r:List Ty×List Ty):Bool:=sameTs r.1 r.2
def zU(x y:Ty):sameT x y=(decide (x.t=y.t)&&sJ (x.args,y.args)):=by obtain⟨t,xs⟩:=x;obtain⟨u,a⟩:=y;rw[sameT];rfl
def sameTs_zip:∀(x y:List Ty),x.length=y.length->(∀p∈x.zip y,p.1.t=p.2.t)->sameTs x y=((x.zip y).map mX).all sJ
 | [],[],_,_=>by simp[sameTs]
 | _::_,[],h,_=>by simp at h
 | [],_::_,h,_=>by simp at h
 | a::xs,b::g,h,c=>by have f:=sameTs_zip xs g (by simpa using h) (λp e=>c p (by simp[e]));have d:=c (a,b) ot;rw[sameTs,f,zU];simp[mX,show a.t=b.t from d]
def Oq(x y:List Ty)(i:Nat)(d:i<x.length)(e:i<y.length)(c:(x[i]).t≠(y[i]).t):sameTs x y=false:=by
 induction x generalizing y i with
 | nil=>simp at d
 | cons a xs f =>
  cases y with
  | nil=>simp[sameTs]
  | cons b g =>
   cases i with
   | zero =>
    have : a.t≠b.t:=c;simp[sameTs,zU,this]
   | succ i =>
    have:=f g i (by simpa using d) (by simpa using e) (by simpa using c);simp[sameTs,this]
def iD (rows:List (List Ty×List Ty)):Nat:=(rows.map λr=>tysizes r.1+1).sum
def oI(a b:List (List Ty×List Ty)):iD (a++b)=iD a+iD b:=by simp[iD]
def BA(r:List Ty×List Ty):iD [r]=tysizes r.1+1:=by simp[iD]
def NF(rows:List (List Ty×List Ty)):rows.length<=iD rows:=by
 induction rows with
 | nil=>simp
 | cons r l a=>simp only[iD,qb7,jh4,jn]at a|-;omega
def zip_left:∀(x y:List Ty),iD ((x.zip y).map mX)<=tysizes x
 | [],_=>by simp[iD]
 | _::_,[]=>by simp[iD]
 | a::xs,b::c=>by
  have e:=zip_left xs c;have h:iD (((a::xs).zip (b::c)).map mX)=(tysizes a.args+1)+iD ((xs.zip c).map mX):=by simp[iD,mX]
  have d:a.size=tysizes a.args+1:=by obtain⟨t,l⟩:=a;simp[Ty.size,Ty.args]
  rw[h,tysizes];omega
def Dq(k:Nat)(cap:Array Value)(n:Nat)(a L:Option Addr)(c R:Nat)(V K:Nat->Value)(b:Nat->Bool)(I:Nat->World->Prop)(J:World->Prop)(T:n<=maxLen)(eg:∀args w,(callFunc k args).run prog w =.ok (.enter k args) w)
 (hrow:∀i w,i<n->I i w->rC (λ_=>True) w a i (V i)) (hrow2:∀i w,i<n->I i w->rC (λ_=>True) w L i (K i)) (hall:∀i w o,I i w->I i (w.alloc o))
 (hcall:∀i w,i<n->I i w->Calls prog k (#[V i,K i]++cap) w λe w'=>e =.returned (.bool (b i))/\(b i=true->I (i+1) w')/\(b i=false->J w')) (w:World) (h0:I 0 w) :
 Calls prog 38 #[.slice a n c,.slice L n R,.func (.func k) #[] cap] w λe w'=>(e =.returned (.bool true)/\I n w'/\∀i,i<n->b i=true)\/(∃i,i<n/\b i=false/\e =.returned (.bool false)/\J w'):=by
 unfold maxLen at T;obtain⟨H,q,y,G,E⟩:=wg hrow hrow2 hall hcall h0;clear hrow hrow2 hall hcall h0;go_enter func38,ntmps38;go_wp2_with fail;go_loopw [17] (λi wr=>∃j:Nat,j<=n/\i =.i j/\I j wr/\∀m,m<j->b m=true) (λi _=>n - (intOf i).toNat)
 case atStart=>exact⟨0,kB _,rfl,E,λm S=>od⟩
 case round =>
  obtain⟨j,hj,rfl,g,s⟩:=hrel;have F:=jh s;clear s
  by_cases f:j<n
  .obtain⟨X,o,t,O,l,Q,rfl,_,M,Y,Z⟩:=(H.out j wr f g).cells;have p:=y.out j wr (.cells #[.i t,.slice O l Q] 54) g;obtain⟨P,o2,W,A,U,B,rfl,_,v,g0,g1⟩:=(q.out j _ f p).cells;have r:=y.out j _ (.cells #[.i W,.slice A U B] 54) p;have x:=G.out j _ f r;rw[M,v]at x;unfold bY at x;have N:=jh x;clear x p r g M v H q y G E;go_wp2_with fail;refine N.mono ?_;rintro e w' ⟨rfl,C,D⟩
   cases d:b j with
   | true =>
    have HI:=jh (C d);have h:=jh d;clear C D d;go_wp2_with fail;go_roundw
    case rel=>exact⟨j+1,od,OF,HI,λm S=>by
     by_cases e:m=j
     .subst e;exact h
     .exact F m od⟩
    case measure=>simp[intOf];omega
   | false =>
    have z:=jh (D d);have h:=jh d;clear C D d;go_wp2_with fail;go_ret;exact .inr ⟨j,f,h,rfl,z⟩
  .have u:j=n:=by omega
   have HI:=jh g;have z:=jh u;clear g u;go_wp2_with fail;go_ret;have g:=HI.out;have s:=F.out;rw[z.out]at g s;exact .inl ⟨rfl,g,s⟩
def Dr(f:Value)(n b:Nat)(a d:Option Addr)(c g:Nat)(k:n≠b)(i:n<=maxLen)(j:b<=maxLen)(w:World) :
 Calls prog 38 #[.slice a n c,.slice d b g,f] w λe w'=>e =.returned (.bool false)/\w'=w:=by
 have h:((n:Int)==(b:Int))=false:=oB
 unfold maxLen at i j;go_enter func38,ntmps38;go_wp2_with fail;go_ret;exact⟨rfl,rfl⟩
def Ud:(prog.info? 95).map (λi=>(i.zero,i.size,i.bytes))=some (some (.agg #[.n0,.n0]),2,48):=oA
def wC (a1:Option Addr) (l1 c1:Nat) (a2:Option Addr) (l2 c2:Nat):Value:=.agg #[.slice a1 l1 c1,.slice a2 l2 c2]
def zI (B:Nat) (w:World) (v:Value) (vs:List Value):Prop:=w.ownsRow B 95 2 v vs.length (bX vs)
def Y2{a:Act}(B:Nat)(vs:List Value)(b:Option Addr)(i d:Nat)(c:Option Addr)(l2 e:Nat)(w0:World)(v:Value)(j:o.guard=none)(s x:Operand)
 (ho:o.op =.call { callee:=.builtin .append,args:=#[s,x],argTypes:=#[96,96] }) (hs:a.eval s=v) (hx:a.eval x =.slice (some ⟨H,0,none⟩) 1 1) (hH:w0.heap.size=H)
 (hown:zI B w0 v vs) (hB:B<=w0.heap.size) (hlen:vs.length<=100000000)
 (h:∀g cap w',zI B w' (.slice (some ⟨g,0,none⟩) (vs.length+1) cap) (vs++[wC b i d c l2 e])->Gr w0 v w' (.slice (some ⟨g,0,none⟩) (vs.length+1) cap)->wpList prog ops Q rest (a.put o.dst (.slice (some ⟨g,0,none⟩) (vs.length+1) cap)) w') :
 wpList prog ops Q (o::rest) a (w0.alloc (.cells #[.slice b i d,.slice c l2 e] 95)):=by
 obtain⟨t,r,k,l,m⟩:=qg1 Ud;subst hH;refine jb2 _ j s x 96 ho B 95 t _ 2 48 underlying96 r k l m rfl ov v vs.length (bX vs) hs (xo hown _) ⟨w0.heap.size,0,none⟩ 1 1 [.slice b i d,.slice c l2 e] hx rfl ?_ ?_ ov ?_ ?_ ?_ _ rfl ?_
 .exact qg0 (w:=w0.alloc _) (B:=w0.heap.size) (cs:=#[.slice b i d,.slice c l2 e]) (qT _ _)
 .intro u n;simp at n;rcases n with rfl|rfl<;>rfl
 .unfold maxLen;omega
 .omega
 .simp;omega
 .intro g cap w' p q f _;refine h g cap w' ?_ ?_
  .unfold zI;rw[dx,qS];exact p
  .refine Gr.trans (Gr.alloc (Gr.refl w0 v) _) ⟨q,?_⟩;rcases f with f|f
   .exact .inl f.symm
   .exact .inr ⟨g,rfl,od⟩
structure tO (w0 w:World) (tb r1 r2:Nat) (q1 q2:Array Value) (v:Value) (vs:List Value):Prop where
 grown:w0.grownBy w none
 OV:w0.heap.size<=tb
 tF:w.heap[tb]?=some (.cells #[v] 96 (0,0))
 ym:w.heap[r1]?=some (.cells q1 54 (0,0))
 yo:w.heap[r2]?=some (.cells q2 54 (0,0))
 own:zI w0.heap.size w v vs
def tO.alloc(h:tO w0 w tb r1 r2 q1 q2 v vs)(o:Obj):tO w0 (w.alloc o) tb r1 r2 q1 q2 v vs :=
 ⟨aJ h.grown (aK _),h.OV,aB h.tF,aB h.ym,aB h.yo,xo h.own _⟩
def tO.push(h:tO w0 w tb r1 r2 q1 q2 v vs)(a:Gr w v w' v')(c:zI w0.heap.size w' v' (vs++[u])):tO w0 (w'.setCell ⟨tb,0,none⟩ v') tb r1 r2 q1 q2 v' (vs++[u]):=by
 have d:w'.heap[r1]?=_:=(a.block (ux h.ym) (aD h.own h.ym ov)).trans h.ym;have f:w'.heap[r2]?=_:=(a.block (ux h.yo) (aD h.own h.yo ov)).trans h.yo;have b:w'.heap[tb]?=_:=(a.block (ux h.tF) (aD h.own h.tF ov)).trans h.tF;refine⟨aX (dX h.grown h.own (qv _) a.1) h.OV _ _ _,h.OV,jg6 b,?_,?_,jg3 c (λe=>aD c b ov e.symm) _⟩
 .rw[Below.heap_setCell _ _ _ _ (dC d b ov)];exact d
 .rw[Below.heap_setCell _ _ _ _ (dC f b ov)];exact f
def BN(h:w.ownsRow B e 2 (.slice (some ⟨g,0,none⟩) (n+1) cap) (n+1) (bX (vs++[u])))(p:(tyCells u).length=2):w.ownsRow B e 2 (.slice (some ⟨g,0,none⟩) n cap) n (bX vs):=by
 have f:bX [u]=tyCells u:=by simp[bX]
 rw[dx,f]at h;have o:=h.1;rw[qS,p]at o;refine⟨od,?_⟩;rcases h.2 with⟨a,_⟩|⟨q,c,b,a,i,j,r,k,l,m⟩
 .simp at a
 .simp only[ke,qk,qb2,and_true,true_and]at a;obtain⟨rfl,rfl⟩:=a;refine .inr ⟨g,cap,b,rfl,i,j,od,k,l,?_⟩;have d:=congrArg (List.take (n*2)) m;rw[List.take_take,show min (n*2) ((n+1)*2)=n*2 from by omega]at d;rw[d,jb7 od,qh1 od]
def zk{x y:Value}(h:w.ownsRow B e 2 (.slice (some ⟨g,0,none⟩) (n+1) cap) (n+1) (bX (vs++[.agg #[x,y]]))):w.cell? ⟨g,n*2,none⟩=some x/\w.cell? ⟨g,n*2+1,none⟩=some y:=by
 have f:bX [.agg #[x,y]]=[x,y]:=by simp[bX,tyCells]
 rw[dx,f]at h;have b:=h.1;rw[qS]at b;simp only[jn,xT]at b;have a:(bX vs).length=n*2:=od
 have c:=yy h (g:=g) rfl (n*2) x (by rw[js od,a];simp);have d:=yy h (g:=g) rfl (n*2+1) y (by rw[js od,a];simp);rw[gI,qa4]at c d;exact⟨c,d⟩
def tO.pop(h:tO w0 w tb r1 r2 q1 q2 (.slice (some ⟨g,0,none⟩) (n+1) cap) (vs++[u]))(c:vs.length=n)(d:(tyCells u).length=2):tO w0 (w.setCell ⟨tb,0,none⟩ (.slice (some ⟨g,0,none⟩) n cap)) tb r1 r2 q1 q2 (.slice (some ⟨g,0,none⟩) n cap) vs:=by
 have a:=h.own;unfold zI at a;rw[qS,c]at a;have b:=BN a d;refine⟨aX h.grown h.OV _ _ _,h.OV,jg6 h.tF,?_,?_,?_⟩
 .rw[Below.heap_setCell _ _ _ _ (dC h.ym h.tF ov)];exact h.ym
 .rw[Below.heap_setCell _ _ _ _ (dC h.yo h.tF ov)];exact h.yo
 .unfold zI;rw[c];exact jg3 b (λe=>aD b h.tF ov e.symm) _
def tO.same(h:tO w0 w tb r1 r2 q1 q2 v vs)(c:tO w0 w' tb r1 r2 q1 q2 v' vs'):Same (λb=>b<w0.heap.size\/b=r1\/b=r2) w w':=by
 intro b o a _;refine qn ?_;rcases a with a|rfl|rfl
 .exact (c.grown.block b a ot).trans (h.grown.block b a ot).symm
 .exact c.ym.trans h.ym.symm
 .exact c.yo.trans h.yo.symm
def K9 (ok:Nat->Prop) (w:World) (r:List Ty×List Ty) (u:Value):Prop:=∃a1 c1 V1 a2 c2 V2,u=wC a1 r.1.length c1 a2 r.2.length c2/\dw ok w r.1 a1 V1/\dw ok w r.2 a2 V2
def lF (ok:Nat->Prop) (w:World) (rows:List (List Ty×List Ty)) (vs:List Value):Prop:=rows.length=vs.length/\∀(i:Nat) (r:List Ty×List Ty) (u:Value),rows[i]?=some r->vs[i]?=some u->K9 ok w r u
def lF.snoc{rows:List (List Ty×List Ty)}{r:List Ty×List Ty}(h:lF ok w rows vs)(e:K9 ok w r u):lF ok w (rows++[r]) (vs++[u]):=by
 refine⟨by simp[h.1],λi f g a b=>?_⟩
 by_cases d:i<rows.length
 .rw[jt d]at a;rw[jt (by rw[<-h.1];exact d)]at b;exact h.2 i f g a b
 .have c:i=rows.length:=by
   have:=(jj.1 a).1;simp at this;omega
  subst c;rw[js (qv _)]at a;rw[h.1,js (qv _)]at b;simp at a b;subst a;subst b;exact e
def lF.KL{rows:List (List Ty×List Ty)}{r:List Ty×List Ty}(h:lF ok w (rows++[r]) (vs++[u])):lF ok w rows vs/\K9 ok w r u:=by
 have c:rows.length=vs.length:=by have:=h.1;simp at this;exact this
 refine⟨⟨c,λi f g a b=>?_⟩,?_⟩
 .have d:=(jj.1 a).1;have e:=(jj.1 b).1;exact h.2 i f g (by rw[jt d];exact a) (by rw[jt e];exact b)
 .exact h.2 rows.length r u (by rw[js (qv _)];simp) (by rw[c,js (qv _)];simp)
def lF.last{rows:List (List Ty×List Ty)}(h:lF ok w rows vs)(g:0<vs.length):∃c r vs' u,rows=c++[r]/\vs=vs'++[u]/\lF ok w c vs'/\K9 ok w r u:=by
 have i:rows≠[]:=by intro e;rw[e]at h;have:=h.1;simp at this;omega
 have j:vs≠[]:=by intro e;rw[e]at g;simp at g
 have d:=(qb4 i).symm;have f:=(qb4 j).symm;rw[d,f]at h;obtain⟨a,b⟩:=h.KL;exact⟨_,_,_,_,d,f,a,b⟩
def NJ{o:Int}{j:Option Addr}{l2 k:Nat}(z:tO w0 w tb r1 r2 q1 q2 v vs)(u:vs.length<=100000000) :
 Calls prog 59 #[bY t a l c,bY o j l2 k,.pointer (some ⟨tb,0,none⟩)] w λe w'=>e =.returned (.bool (decide (t=o)))/\∃v',tO w0 w' tb r1 r2 q1 q2 v' (vs++[wC a l c j l2 k]):=by
 have p:=(z.alloc (.cells #[.i t,.slice a l c] 54)).alloc (.cells #[.i o,.slice j l2 k] 54);have b:=jh p;have D:=qd4 z.tF;have E:=ux z.tF;have F:tb<w.heap.size+1:=od
 have m:((w.alloc (.cells #[.i t,.slice a l c] 54)).alloc (.cells #[.i o,.slice j l2 k] 54)).heap[w.heap.size]?=some (.cells #[.i t,.slice a l c] 54 (0,0)):=aB (qT _ _);have n:((w.alloc (.cells #[.i t,.slice a l c] 54)).alloc (.cells #[.i o,.slice j l2 k] 54)).heap[w.heap.size+1]?=some (.cells #[.i o,.slice j l2 k] 54 (0,0)):=by have:=qT (w.alloc (.cells #[.i t,.slice a l c] 54)) (.cells #[.i o,.slice j l2 k] 54);rw[yb]at this;exact this
 obtain⟨d,f,C⟩:=we m n p.grown.size;clear z p m n;unfold bY;go_enter func59,ntmps59;go_wp2_with (at_builtin;refine Y2 w0.heap.size vs a l c j l2 k ((w.alloc (.cells #[.i t,.slice a l c] 54)).alloc (.cells #[.i o,.slice j l2 k] 54)) v rfl (.tmp 6) (.tmp 12) rfl rfl rfl ot b.own C u ?_;intro g cap K x s;have B:=jh x;have h:=jh s;clear x s;have y:=(h.out.block (ux b.tF) (aD b.own b.tF ov)).trans b.tF;have G:=jd6 y;have H:=qd4 y;have A:=jh (b.push h B);have q:=(h.out.block (ux d) (aD b.own d ov)).trans d;have r:=(h.out.block (ux f) (aD b.own f ov)).trans f;have I:=xq ((Below.heap_setCell _ ⟨tb,0,none⟩ (.slice (some ⟨g,0,none⟩) (vs.length+1) cap) _ (dC q y ov)).trans q);have J:=xq ((Below.heap_setCell _ ⟨tb,0,none⟩ (.slice (some ⟨g,0,none⟩) (vs.length+1) cap) _ (dC r y ov)).trans r);clear y q r);go_ret;exact⟨rfl,_,A⟩
def ent_same1:∀args w,(callFunc 59 args).run prog w =.ok (.enter 59 args) w:=λargs w=>OK
def sw (w:World) (t:Int) (a:Option Addr) (l c:Nat) (t2:Int) (a2:Option Addr) (l2 c2:Nat):World :=
 (((((w.alloc (.cells #[.i t,.slice a l c] 54)).alloc (.cells #[.i t2,.slice a2 l2 c2] 54)).alloc (.cells #[.i t,.slice a l c] 54)).alloc (.cells #[.i t2,.slice a2 l2 c2] 54)).alloc
   (.cells #[.slice (some ⟨w.heap.size+1+1,0,none⟩) 1 1,.slice (some ⟨w.heap.size+1+1+1,0,none⟩) 1 1] 95)).alloc (.cells #[.slice (some ⟨w.heap.size+1+1+1+1,0,none⟩) 1 1] 96)
def XO(w:World)(t:Int)(a:Option Addr)(l c:Nat)(e:Int)(b:Option Addr)(l2 d:Nat):tO w (sw w t a l c e b l2 d) (w.heap.size+1+1+1+1+1) (w.heap.size+1+1) (w.heap.size+1+1+1) #[.i t,.slice a l c] #[.i e,.slice b l2 d]
 (.slice (some ⟨w.heap.size+1+1+1+1,0,none⟩) 1 1) [wC (some ⟨w.heap.size+1+1,0,none⟩) 1 1 (some ⟨w.heap.size+1+1+1,0,none⟩) 1 1]:=by
 have f:=qT ((w.alloc (.cells #[.i t,.slice a l c] 54)).alloc (.cells #[.i e,.slice b l2 d] 54)) (.cells #[.i t,.slice a l c] 54);have g:=qT (((w.alloc (.cells #[.i t,.slice a l c] 54)).alloc (.cells #[.i e,.slice b l2 d] 54)).alloc (.cells #[.i t,.slice a l c] 54)) (.cells #[.i e,.slice b l2 d] 54);have h:=qT ((((w.alloc (.cells #[.i t,.slice a l c] 54)).alloc (.cells #[.i e,.slice b l2 d] 54)).alloc (.cells #[.i t,.slice a l c] 54)).alloc (.cells #[.i e,.slice b l2 d] 54))
  (.cells #[.slice (some ⟨w.heap.size+1+1,0,none⟩) 1 1,.slice (some ⟨w.heap.size+1+1+1,0,none⟩) 1 1] 95)
 have j:=qT (((((w.alloc (.cells #[.i t,.slice a l c] 54)).alloc (.cells #[.i e,.slice b l2 d] 54)).alloc (.cells #[.i t,.slice a l c] 54)).alloc (.cells #[.i e,.slice b l2 d] 54)).alloc
  (.cells #[.slice (some ⟨w.heap.size+1+1,0,none⟩) 1 1,.slice (some ⟨w.heap.size+1+1+1,0,none⟩) 1 1] 95)) (.cells #[.slice (some ⟨w.heap.size+1+1+1+1,0,none⟩) 1 1] 96)
 simp only[yb]at f g h j;refine⟨aJ (aK _) (aJ (aK _) (aJ (aK _) (aJ (aK _) (aJ (aK _) (aK _))))),od,j,?_,?_,?_⟩
 .exact aB (aB (aB f))
 .exact aB (aB g)
 .exact⟨rfl,.inr ⟨w.heap.size+1+1+1+1,1,#[.slice (some ⟨w.heap.size+1+1,0,none⟩) 1 1,.slice (some ⟨w.heap.size+1+1+1,0,none⟩) 1 1],rfl,od,aB h,ot,OS,rfl,rfl⟩⟩
def Tz (w0 W1:World) (q1 q2:Array Value) (T U:Ty) (n:Nat) (wr:World):Prop :=
 ∃(v:Value) (vs:List Value) (rows:List (List Ty×List Ty)),tO w0 wr (w0.heap.size+1+1+1+1+1) (w0.heap.size+1+1) (w0.heap.size+1+1+1) q1 q2 v vs /\
  lF (λb=>b<w0.heap.size\/b=w0.heap.size+1+1\/b=w0.heap.size+1+1+1) W1 rows vs/\iD rows=n/\n<=T.size+1/\rows.all sJ=sameT T U
def sameAt (x y:List Ty) (i:Nat):Bool:=match x[i]?,y[i]? with
 | some p,some q=>decide (p.t=q.t)
 | _,_=>true
def zw{x:List Ty}(a:i<x.length)(b:i<y.length):sameAt x y i=decide ((x[i]).t=(y[i]).t):=by simp[sameAt,qt a,qt b]
def C8(x y:List Ty)(i:Nat)(a:i<x.length)(b:i<y.length):((x.zip y).map mX).take (i+1)=((x.zip y).map mX).take i++[((x[i]).args,(y[i]).args)]:=by rw[ur oB];simp[mX]
def VG{x:List Ty}(d:x.length=y.length)(h:∀i,i<x.length->sameAt x y i=true):∀p∈x.zip y,p.1.t=p.2.t:=by
 intro p c;obtain⟨i,b,rfl⟩:=ye c;rw[List.length_zip]at b;have a:i<x.length:=od
 have:=h i a;rw[zw a od]at this;simpa using this
def Rx{w0 W:World}{t:Int}{r:Nat}(d:ok r)(e:W.heap[r]?=some (.cells #[.i T.t,.slice a T.args.length c] 54 (0,0)))(f:aH ok W T (bY T.t a T.args.length c)):dw ok W [T] (some ⟨r,0,none⟩) (λ_=>bY T.t a T.args.length c):=by
 refine⟨OS,λi b=>?_,λi b=>?_⟩
 .have : i=0:=by simpa using b
  subst this;exact⟨_,0,rfl,d,T.t,a,T.args.length,c,rfl,xq e,wy e⟩
 .have : i=0:=by simpa using b
  subst this;exact f
def Ik{U:Ty}{E:Value}(hL:aH (· < w0.heap.size) w0 T v)(Q:aH (· < w0.heap.size) w0 U E)(hz:T.size<=50000000) :
 Calls prog 39 #[v,E] w0 λe w'=>e =.returned (.bool (sameT T U))/\w0.grownBy w' none:=by
 obtain⟨a,c,V,rfl,it,hR⟩:=hL.inv;obtain⟨M,N,V2,rfl,bc,ad⟩:=Q.inv;have s:=XO w0 T.t a T.args.length c U.t M U.args.length N;obtain⟨L,R⟩:∃W,W=sw w0 T.t a T.args.length c U.t M U.args.length N:=⟨_,rfl⟩;rw[<-R]at s;obtain⟨μ,hμ⟩:=mM (Tz w0 L #[.i T.t,.slice a T.args.length c] #[.i U.t,.slice M U.args.length N] T U);have h0:Tz w0 L #[.i T.t,.slice a T.args.length c] #[.i U.t,.slice M U.args.length N] T U (T.size+1) L:=by
  refine⟨_,_,[([T],[U])],s,⟨rfl,?_⟩,by simp[iD,tysizes],qv _,by simp[sJ,sameTs]⟩;intro i r u O H
  cases i with
  | zero =>
   simp at O H;subst O;subst H;have hs:Same (· < w0.heap.size) w0 L:=λb o G _=>qn (s.grown.block b G ot);exact⟨_,1,_,_,1,_,rfl,Rx (w0:=w0) (t:=T.t) (.inr (.inl rfl)) s.ym ((hL.same hs).ae (λb _ G=>.inl G)),Rx (w0:=w0) (t:=T.t) (.inr (.inr rfl)) s.yo ((Q.same hs).ae (λb _ G=>.inl G))⟩
  | succ i=>simp at O
 have bb:T.args.length<=maxLen:=hR.1;have an:U.args.length<=maxLen:=ad.1;unfold maxLen at bb an;obtain⟨H0,HM,aa,aq⟩:=JT h0 hμ s R;clear h0 hμ hR ad hL Q it bc s R;unfold bY;go_enter func39,ntmps39;go_wp2_with fail;go_loopw [7] (λ_ wr=>∃n,Tz w0 L #[.i T.t,.slice a T.args.length c] #[.i U.t,.slice M U.args.length N] T U n wr) (λ_ wr=>μ wr)
 case atStart =>
  have h:=H0.out;rw[aq.out]at h|-;exact⟨_,h⟩
 case round =>
  obtain⟨n0,Y⟩:=hrel;obtain⟨v1,vs,rows,F,d,hn,ai,f⟩:=(HM.out wr n0 Y).1;have d1:=qd4 F.tF;have f1:=jd6 F.tF;have bk:=ux F.tF
  by_cases hv:vs.length=0
  .obtain⟨a0,bd,rfl⟩:=mg F.own hv;have K:sameT T U=true:=by
    have O:=d.1;have H:rows=[]:=qd7.1 od;rw[H]at f;exact f.symm
   have HR:=jh K;have HI:=jh F;clear F d hn ai f K Y;go_wp2_with fail;go_ret;exact⟨by rw[HR.out];rfl,HI.grown⟩
  .obtain⟨j,r,vs',u,rfl,rfl,p,Z,c3,V3,a4,c4,V4,rfl,z,q⟩:=d.last od;obtain⟨x,y⟩:=r;simp only at z q;have X:(vs'++[wC Z x.length c3 a4 y.length c4]).length=vs'.length+1:=by simp
   have B:=jb3 F.own ot;rw[X]at B;obtain⟨g,cap,rfl,_,_⟩:=B;have C:wr.ownsRow w0.heap.size 95 2 (.slice (some ⟨g,0,none⟩) (vs'.length+1) cap) (vs'.length+1) (bX (vs'++[wC Z x.length c3 a4 y.length c4])):=by have ho:=F.own;unfold zI at ho;rw[X]at ho;exact ho
   have ah:=QX C;have aO:vs'.length<=cap:=od
   have ba:¬cap=0:=od
   obtain⟨bf,bh⟩:=zk C;have I:=(F.pop rfl rfl).alloc (.cells #[.slice Z x.length c3,.slice a4 y.length c4] 95);have aE:vs'.length+1<=50000001:=by
    have O:j.length+1=vs'.length+1:=by have:=d.1;simpa using this
    have H:=NF (j++[(x,y)]);rw[qS,yW]at H;omega
   have S:iD j+(tysizes x+1)=μ wr:=by rw[<-hn,oI,BA]
   have hE:Calls prog 38 #[.slice Z x.length c3,.slice a4 y.length c4,.func (.func 59) #[] #[.pointer (some ⟨w0.heap.size+1+1+1+1+1,0,none⟩)]]
    ((wr.setCell ⟨w0.heap.size+1+1+1+1+1,0,none⟩ (.slice (some ⟨g,0,none⟩) vs'.length cap)).alloc (.cells #[.slice Z x.length c3,.slice a4 y.length c4] 95)) λe w'=>(e =.returned (.bool true)/\∃m,m<μ wr/\Tz w0 L #[.i T.t,.slice a T.args.length c] #[.i U.t,.slice M U.args.length N] T U m w') \/
      (e =.returned (.bool false)/\sameT T U=false/\w0.grownBy w' none):=by
    by_cases D:x.length=y.length
    .rw[<-D]at I|-;refine (Dq 59 _ x.length Z a4 c3 c4 V3 V4 (sameAt x y) (λi w=>∃E k,tO w0 w (w0.heap.size+1+1+1+1+1) (w0.heap.size+1+1) (w0.heap.size+1+1+1) #[.i T.t,.slice a T.args.length c] #[.i U.t,.slice M U.args.length N] E k /\
      lF (λb=>b<w0.heap.size\/b=w0.heap.size+1+1\/b=w0.heap.size+1+1+1) L (j++((x.zip y).map mX).take i) k) (λw=>w0.grownBy w none) z.1 ent_same1 ?_ ?_ ?_ ?_ _ ⟨_,vs',I,by simpa using p⟩).mono ?_
     .rintro i w J ⟨E,k,l,_⟩;exact ((z.2.1 i J).same (aa.same l)).ae (λ_ _ _=>trivial)
     .rintro i w J ⟨E,k,l,_⟩;exact ((q.2.1 i od).same (aa.same l)).ae (λ_ _ _=>trivial)
     .rintro i w o ⟨E,k,l,P⟩;exact⟨E,k,l.alloc o,P⟩
     .rintro i w J ⟨E,k,l,P⟩;have A:i<y.length:=by omega
      obtain⟨ax,cx,Vx,az,_,ar⟩:=(z.2.2 i J).inv;obtain⟨ay,cy,Vy,aC,_,au⟩:=(q.2.2 i A).inv;have aj:k.length<=100000000:=by
       have h5:=P.1;have h6:(((x.zip y).map mX).take i).length<=x.length:=oB
       have h7:=pW x;have h8:=p.1;rw[qS]at h5;omega
      rw[az,aC];refine (NJ l aj).mono ?_;rintro e w' ⟨rfl,v',ab⟩;rw[zw J A];refine⟨rfl,λ_=>⟨v',_,ab,?_⟩,λ_=>ab.grown⟩;rw[C8 x y i J A,<-ub];exact P.snoc ⟨ax,cx,Vx,ay,cy,Vy,rfl,ar,au⟩
     .rintro e w' (⟨rfl,⟨E,k,l,P⟩,G⟩|⟨i,J,G,rfl,hg⟩)
      .rw[qh1 oB]at P;have h7:=zip_left x y;refine .inl ⟨rfl,iD (j++(x.zip y).map mX),?_,E,k,_,l,P,rfl,?_,?_⟩
       .rw[oI];omega
       .rw[oI];omega
       .rw[<-f,qc6,qc6,<-sameTs_zip x y D (VG D G)];simp[sJ]
      .refine .inr ⟨rfl,?_,hg⟩;have A:i<y.length:=by omega
       rw[zw J A]at G;rw[<-f,qc6];simp[sJ,Oq x y i J A (by simpa using G)]
    .refine (Dr _ _ _ _ _ _ _ D z.1 q.1 _).mono ?_;rintro e w' ⟨rfl,rfl⟩;refine .inr ⟨rfl,?_,I.grown⟩;have : sameTs x y=false:=by
      cases h:sameTs x y with
      | false=>rfl
      | true=>exact absurd (sameTs_len h) D
     rw[<-f,qc6];simp[sJ,this]
   have HE:=jh hE;have bj:(vs'.length:Int)<=4611686018427387904:=od
   clear hE I F d p z q hn ai f Y X S hz aE hv ah C;unfold wC at *;go_wp2_with fail;refine HE.mono ?_;rintro e w2 (⟨rfl,hm⟩|⟨rfl,ak,hg⟩)
   .have ao:=jh hm;clear hm;go_wp2_with fail;obtain⟨m,O,H⟩:=ao.out;go_roundw
    case rel=>exact⟨m,H⟩
    case measure=>exact qf3 (HM _ m H).2 O
   .have HN:=jh ak;have HG:=jh hg;clear ak hg;go_wp2_with fail;go_ret;exact⟨by rw[HN.out];rfl,HG⟩
def gP (a b:Int):Int:=if a<b then -1 else if b<a then 1 else 0
def Jn (s t:ByteArray):Int:=if Op.bytesLess s.toList t.toList=true then -1 else if s.toList=t.toList then 0 else 1
mutual
def qg (c:Va->Va->Int):Va->Va->Int
 | .mk k n a s args ty co,y=>if c (.mk k n a s args ty co) y≠0 then c (.mk k n a s args ty co) y else eO c args y.args
def eO (c:Va->Va->Int):List Va->List Va->Int
 | [],[]=>0
 | [],_::_=>-1
 | _::_,[]=>1
 | x::xs,y::ys=>if qg c x y≠0 then qg c x y else eO c xs ys
end
def FB(c:Va->Va->Int)(x y:Va):qg c x y=if c x y≠0 then c x y else eO c x.args y.args:=by
 cases x;rw[qg];rfl
def Eg(c:Va->Va->Int)(x y:Va):eO c [x] [y]=qg c x y:=by
 rw[eO,eO]
 by_cases h:qg c x y=0
 .rw[if_neg (by simpa using h),h]
 .rw[if_pos h]
def XN (c:Va->Va->Int):List (List Va×List Va)->Int
 | []=>0
 | r::R=>if eO c r.1 r.2≠0 then eO c r.1 r.2 else XN c R
def jL (c:Va->Va->Int) (rows:List (List Va×List Va)):Int:=XN c rows.reverse
def o9(c:Va->Va->Int)(rows:List (List Va×List Va))(r:List Va×List Va):jL c (rows++[r])=if eO c r.1 r.2≠0 then eO c r.1 r.2 else jL c rows:=by simp[jL,XN]
def Vl(c:Va->Va->Int)(r:List Va×List Va):jL c [r]=eO c r.1 r.2:=by
 have:=o9 c [] r;rw[qf0]at this;rw[this]
 by_cases h:eO c r.1 r.2=0
 .rw[if_neg (by simpa using h),h];rfl
 .rw[if_pos h]
def Vm(c:Va->Va->Int)(rows:List (List Va×List Va)):jL c (rows++[([],[])])=jL c rows:=by rw[o9];simp[eO]
def Vh(c:Va->Va->Int)(rows:List (List Va×List Va))(x y:List Va)(h:x=[]\/y=[])(f:¬(x=[]/\y=[])):jL c (rows++[(x,y)])=gP x.length y.length:=by
 rw[o9]
 cases x with
 | nil=>cases y with
  | nil=>simp at f
  | cons b y =>
   have d:eO c [] (b::y) = -1:=by rw[eO]
   have e:gP (([]:List Va).length:Nat) ((b::y).length:Nat) = -1:=by rw[gP,if_pos ot]
   rw[e];simp[d]
 | cons a x=>cases y with
  | nil =>
   have d:eO c (a::x) []=1:=by rw[eO]
   have e:gP ((a::x).length:Nat) (([]:List Va).length:Nat)=1:=by rw[gP,if_neg oB,if_pos ot]
   rw[e];simp[d]
  | cons b y=>simp at h
def Vn(c:Va->Va->Int)(rows:List (List Va×List Va))(x y:Va)(xs ys:List Va)(h:c x y≠0):jL c (rows++[(x::xs,y::ys)])=c x y:=by
 have a:qg c x y=c x y:=by rw[FB,if_pos h]
 have b:eO c (x::xs) (y::ys)=c x y:=by rw[eO,a,if_pos h]
 rw[o9];simp only[b];rw[if_pos h]
def RZ(c:Va->Va->Int)(rows:List (List Va×List Va))(x y:Va)(xs ys:List Va)(h:c x y=0):jL c (rows++[(x::xs,y::ys)])=jL c (rows++[(xs,ys)]++[(x.args,y.args)]):=by
 have b:qg c x y=eO c x.args y.args:=by rw[FB,if_neg (by simpa using h)]
 rw[o9,o9,o9];simp only;rw[eO,b]
 by_cases a:eO c x.args y.args=0
 .simp[a]
 .rw[if_pos a,if_pos a];simp[a]
def leftV (rows:List (List Va×List Va)):Nat:=(rows.map λr=>2*vsizes r.1+1).sum
def iQ(a b:List (List Va×List Va)):leftV (a++b)=leftV a+leftV b:=by simp[leftV]
def jW(r:List Va×List Va):leftV [r]=2*vsizes r.1+1:=by simp[leftV]
def NI(rows:List (List Va×List Va)):rows.length<=leftV rows:=by
 induction rows with
 | nil=>simp
 | cons r l a=>simp only[leftV,qb7,jh4,jn]at a|-;omega
def nQ (x y:Va):Int:=if gP x.n y.n≠0 then gP x.n y.n else Jn x.s y.s
def gT (x y:Va):Int:=qg nQ x y
def zeroVa:Va:=.mk 0 0 0 ⟨#[]⟩ [] [] []
def fU (v:Va):Va:=match v.args with
 | []=>zeroVa
 | x::_=>x
def risesF:List Va->Bool
 | []=>true
 | [_]=>true
 | x::y::l=>decide (gT (fU x) (fU y)<0)&&risesF (y::l)
def Cb(l:List Va):risesF l=true ↔ ∀i (h:i+1<l.length),gT (fU l[i]) (fU l[i+1])<0:=by
 induction l with
 | nil=>simp[risesF]
 | cons x l d=>cases l with
  | nil=>simp[risesF]
  | cons y l =>
   simp only[risesF,qu,ki,d];constructor
   .rintro⟨b,c⟩ i a
    cases i with
    | zero=>exact b
    | succ i=>exact c i (by simpa using a)
   .intro h;exact⟨h 0 ot,λi a=>h (i+1) (by simpa using a)⟩
def Oh(l:List Va)(i:Nat)(h:i+1<l.length)(a:¬gT (fU l[i]) (fU l[i+1])<0):risesF l=false:=by
 cases b:risesF l with
 | false=>rfl
 | true=>exact absurd ((Cb l).1 b i h) a
def kE (n:Int):Bool:=decide (-1152921504606846976<=n/\n<=1152921504606846976)
def gN (n:Int):Bool:=decide (0<=n/\n<=1152921504606846976)
def lY (n:Int):Bool:=decide (0<=n/\n<12)
def bQ (t n:Int):Bool :=
 if t=2\/t=12 then decide (n=0\/n=1)else if t=3 then kE n else if t=4\/t=5\/t=8 then gN n
 else if t=15 then gN n&&decide (n≠0)else if t=7 then lY n else decide (n=0)
def oneGood:List Ty->Bool
 | []=>false
 | [u]=>zt u
 | _::_::_=>false
def J3{l:List Ty}(h:l.length≠1):oneGood l=false:=by
 match l,h with
 | [],_=>rfl
 | [_],h=>simp at h
 | _::_::_,_=>rfl
def eZ (T:Ty) (types:List Ty):Bool :=
 if T.t=8 then oneGood types else if T.t=14 then sameTs types T.args else decide (types.length=0)
def eX (T:Ty) (v:Va):Bool :=
 decide (v.k=T.t)&&bQ T.t v.n&&(decide (v.a=0)||decide (T.t=8\/T.t=15)&&lY v.a)&&(decide (v.s.size=0)||decide (T.t=6)&&decide (v.s.size<=200)) &&
 eZ T v.types&&(decide (v.code.length=0)||decide (T.t=14))
def bB (l:List Ty) (i:Nat):Ty:=(l[i]?).getD (.nd 0 [])
def bS (T:Ty) (v:Va):Option (List Ty) :=
 let l:=v.args.length
 if T.t=8 then (if l=v.types.length then some v.types else none)
 else if T.t=9/\l=0 then some []
 else if T.t=10 then (if l<=24 then some (List.replicate l (bB T.args 0))else none)
 else if T.t=13 then (if l<=24 then some (List.replicate l (.nd 11 T.args))else none)
 else if T.t=12 then (if l=1 then some [bB T.args v.n.toNat]else none)
 else if T.t=14 then (if l=0 then some []else none)
 else if l=T.args.length then some T.args else none
mutual
def hasV:Va->Ty->Bool
 | .mk k n a s args types code,T=>eX T (.mk k n a s args types code)&&(match bS T (.mk k n a s args types code)with
  | none=>false
  | some ts=>hasVs args ts)&&(!decide (T.t=13)||risesF args)
def hasVs:List Va->List Ty->Bool
 | [],[]=>true
 | v::vs,T::ts=>hasV v T&&hasVs vs ts
 | [],_::_=>false
 | _::_,[]=>false
end
def pY (T:Ty) (v:Va):Bool:=zt T&&hasV v T
def Bn (p:Ty×Va):Bool:=hasV p.2 p.1
def partsOf (T:Ty) (v:Va):Option (List (Ty×Va)):=(bS T v).map λts=>ts.zip v.args
def hasVs_zip:∀(vs:List Va) (ts:List Ty),vs.length=ts.length->hasVs vs ts=(ts.zip vs).all Bn
 | [],[],_=>by simp[hasVs]
 | _::_,[],h=>by simp at h
 | [],_::_,h=>by simp at h
 | v::vs,T::ts,h=>by have a:=hasVs_zip vs ts (by simpa using h);simp[hasVs,a,Bn]
def rE{v:Va}(h:bS T v=some ts):v.args.length=ts.length:=by
 unfold bS at h;simp only at h
 repeat' split at h
 all_goals first|(simp at h;done)|(simp only[qk]at h;subst h;simp_all)
def Lu(T:Ty)(v:Va):hasV v T=(eX T v&&(match partsOf T v with
 | none=>false
 | some ps=>ps.all Bn)&&(!decide (T.t=13)||risesF v.args)):=by
 cases v with
 | mk k n a s args b c =>
  rw[hasV,partsOf]
  cases h:bS T (.mk k n a s args b c)with
  | none=>rfl
  | some ts =>
   have:=rE h;simp only[qg6];rw[hasVs_zip args ts this];rfl
def yg (p:Ty×Va):Nat:=p.2.size
def j6 (C:List (Ty×Va)):Nat:=(C.map yg).sum
def lN(a b:List (Ty×Va)):j6 (a++b)=j6 a+j6 b:=by simp[j6]
def DK(p:Ty×Va):j6 [p]=p.2.size:=by simp[j6,yg]
def NH(C:List (Ty×Va)):C.length<=j6 C:=by
 induction C with
 | nil=>simp
 | cons r l a=>have:=qZ r.2;simp only[j6,qb7,jh4,jn,yg]at a|-;omega
def leftP_zip:∀(ts:List Ty) (vs:List Va),ts.length=vs.length->j6 (ts.zip vs)=vsizes vs
 | [],[],_=>by simp[j6,vsizes]
 | _::_,[],h=>by simp at h
 | [],_::_,h=>by simp at h
 | T::ts,v::vs,h=>by
  have a:=leftP_zip ts vs (by simpa using h);have e:j6 ((T::ts).zip (v::vs))=v.size+j6 (ts.zip vs):=by simp[j6,yg]
  rw[e,a,vsizes]
def Lb (p:Int):Prop:=p = -1\/p=0\/p=1
def EG (p q r:Int):Prop:=p<=0->q<=0->r<=0/\(r=0 ↔ p=0/\q=0)
def tu (p q:Int):Int:=if p≠0 then p else q
def uA(a:Lb p)(b:Lb q):Lb (tu p q):=by unfold tu;split<;>assumption
def uz: -tu p q=tu (-p) (-q):=by
 unfold tu
 by_cases h:p=0
 .simp[h]
 .rw[if_pos h,oc]
def xP{d p2 e g f h:Int}(i:EG d e f)(j:EG p2 g h):EG (tu d p2) (tu e g) (tu f h):=by
 unfold EG tu at *;intro k l
 by_cases a:d=0<;>by_cases b:e=0<;>by_cases c:f=0<;>simp[a,b,c]at k l i j|- <;> omega
def Gl(a b:Int):Lb (gP a b):=by unfold Lb gP;split<;>(try split)<;>simp
def Gi(a b:Int):gP b a = -gP a b:=by unfold gP;split<;>split<;>(try split)<;>omega
def Gj(a b c:Int):EG (gP a b) (gP b c) (gP a c):=by unfold EG gP;split<;>split<;>split<;>(try split)<;>(try split)<;>(try split)<;>omega
def cmpL:List UInt8->List UInt8->Int
 | [],[]=>0
 | [],_::_=>-1
 | _::_,[]=>1
 | a::x,b::y=>tu (gP a.toNat b.toNat) (cmpL x y)
def cmpL_sgn:∀x y,Lb (cmpL x y)
 | [],[]=>.inr (.inl rfl)
 | [],_::_=>.inl rfl
 | _::_,[]=>.inr (.inr rfl)
 | a::x,b::y=>uA (Gl _ _) (cmpL_sgn x y)
def cmpL_neg:∀x y,cmpL y x = -cmpL x y
 | [],[]=>rfl
 | [],_::_=>rfl
 | _::_,[]=>rfl
 | a::x,b::y=>by rw[cmpL,cmpL,uz,Gi,cmpL_neg x y]
def cmpL_on3:∀x y z,EG (cmpL x y) (cmpL y z) (cmpL x z)
 | [],[],[]=>by simp[EG,cmpL]
 | [],[],_::_=>by simp[EG,cmpL]
 | [],_::_,[]=>by simp[EG,cmpL]
 | [],_::_,_::_=>by simp[EG,cmpL]
 | _::_,[],_=>by intro h;simp[cmpL]at h
 | _::_,_::_,[]=>by intro _ h;simp[cmpL]at h
 | a::x,b::y,c::z=>xP (Gj _ _ _) (cmpL_on3 x y z)
def cmpL_zero:∀x y,cmpL x y=0 ↔ x=y
 | [],[]=>by simp[cmpL]
 | [],_::_=>by simp[cmpL]
 | _::_,[]=>by simp[cmpL]
 | a::x,b::y=>by
  have f:=cmpL_zero x y;have h:gP a.toNat b.toNat=0 ↔ a=b:=by
   constructor
   .intro h;unfold gP at h;split at h
    .cases h
    .split at h
     .cases h
     .exact UInt8.toNat_inj.1 od
   .rintro rfl;simp[gP]
  simp only[cmpL,tu,xj]
  by_cases d:gP a.toNat b.toNat=0
  .have e:=h.1 d;rw[if_neg (by simpa using d),f];exact⟨λc=>⟨e,c⟩,λc=>c.2⟩
  .simp only[ne_eq,d,not_false_eq_true,if_true,false_iff];intro c;exact d (h.2 c.1)
def less_cmpL:∀x y,Op.bytesLess x y=decide (cmpL x y<0)
 | [],[]=>rfl
 | [],_::_=>by simp[Op.bytesLess,cmpL]
 | _::_,[]=>by simp[Op.bytesLess,cmpL]
 | a::x,b::y=>by
  rw[Op.bytesLess,less_cmpL x y];have c:(a<b)=(a.toNat<b.toNat):=by rw[UInt8.lt_iff_toNat_lt]
  by_cases f:a.toNat<b.toNat
  .have d:gP a.toNat b.toNat = -1:=by rw[gP,oc]
   simp[cmpL,tu,d,c,f]
  .by_cases h:b.toNat<a.toNat
   .have d:gP a.toNat b.toNat=1:=by rw[gP,oa,oc]
    have e:¬a=b:=by rintro rfl;omega
    simp[cmpL,tu,d,c,f,e]
   .have d:gP a.toNat b.toNat=0:=by rw[gP,oa,oa]
    have g:a=b:=UInt8.toNat_inj.1 od;subst g;simp[cmpL,tu,d,c]
def M9(s t:ByteArray):Jn s t=cmpL s.toList t.toList:=by
 unfold Jn;rw[less_cmpL];rcases cmpL_sgn s.toList t.toList with h|h|h
 .rw[h];simp
 .rw[h,if_neg ot,if_pos ((cmpL_zero _ _).1 h)]
 .rw[h,if_neg ot,if_neg (λe=>by rw[(cmpL_zero _ _).2 e]at h;cases h)]
def qN(x y:Va):nQ x y=tu (gP x.n y.n) (cmpL x.s.toList y.s.toList):=by unfold nQ;rw[M9];rfl
def Q8(x y:Va):Lb (nQ x y):=by rw[qN];exact uA (Gl _ _) (cmpL_sgn _ _)
def Q6(x y:Va):nQ y x = -nQ x y:=by rw[qN,qN,uz,Gi,cmpL_neg]
def Q7(x y z:Va):EG (nQ x y) (nQ y z) (nQ x z):=by rw[qN,qN,qN];exact xP (Gj _ _ _) (cmpL_on3 _ _ _)
def RB(c:Va->Va->Int)(x y:Va):qg c x y=tu (c x y) (eO c x.args y.args):=by rw[FB];rfl
def Ck(c:Va->Va->Int)(x y:Va)(xs ys:List Va):eO c (x::xs) (y::ys)=tu (qg c x y) (eO c xs ys):=by rw[eO];rfl
mutual
def ordV_all:∀(x y z:Va),Lb (qg nQ x y)/\qg nQ y x = -qg nQ x y/\EG (qg nQ x y) (qg nQ y z) (qg nQ x z)
 | .mk k n a s b g f,y,z=>by obtain⟨c,d,e⟩:=ordVs_all b y.args z.args;simp only[RB];exact⟨uA (Q8 _ _) c,by rw[uz,<-Q6];exact congrArg (tu _) d,xP (Q7 _ _ _) e⟩
def ordVs_all:∀(xs ys zs:List Va),Lb (eO nQ xs ys)/\eO nQ ys xs = -eO nQ xs ys/\EG (eO nQ xs ys) (eO nQ ys zs) (eO nQ xs zs)
 | [],[],[]=>by simp[Lb,EG,eO]
 | [],[],_::_=>by simp[Lb,EG,eO]
 | [],_::_,[]=>by simp[Lb,EG,eO]
 | [],_::_,_::_=>by simp[Lb,EG,eO]
 | _::_,[],_=>by refine⟨.inr (.inr (by rw[eO])),by rw[eO,eO],λh=>?_⟩;rw[eO]at h;omega
 | x::xs,y::ys,[]=>by obtain⟨a,b,_⟩:=ordV_all x y y;obtain⟨c,d,_⟩:=ordVs_all xs ys [];simp only[Ck];refine⟨uA a c,by rw[uz,b,d],λ_ h=>?_⟩;rw[eO]at h;omega
 | x::xs,y::ys,z::zs=>by obtain⟨a,b,e⟩:=ordV_all x y z;obtain⟨c,d,f⟩:=ordVs_all xs ys zs;simp only[Ck];exact⟨uA a c,by rw[uz,b,d],xP e f⟩
end
def Hq(x y:Va):Lb (gT x y):=(ordV_all x y y).1
def Q9(x y:Va):gT y x = -gT x y:=(ordV_all x y y).2.1
def Ho(x y z:Va):EG (gT x y) (gT y z) (gT x z):=(ordV_all x y z).2.2
inductive Plain:Va->Prop
 | mk {k n a:Int} {s:ByteArray} {args:List Va} (h:∀x∈args,Plain x):Plain (.mk k n a s args [] [])
def Plain.args(h:Plain x):∀y∈x.args,Plain y:=by cases h with|mk h=>exact h
def Plain.bare(h:Plain x):x.types=[]/\x.code=[]:=by cases h;exact⟨rfl,rfl⟩
def jU{d:Nat}(h:j5 d T=true):(T.args.length:Int)=bT T.t/\∀y∈T.args,j5 (d+1) y=true:=by obtain⟨t,args⟩:=T;simp only[j5,qu,ki]at h;refine⟨h.1.2.2,λy a=>?_⟩;have:=h.2;rw[jT,zr]at this;exact this y a
def Bo(e:hasV x T=true):eX T x=true/\∃ts,bS T x=some ts/\hasVs x.args ts=true:=by
 cases x with
 | mk k n a s args b c =>
  rw[hasV]at e;simp only[qu]at e;obtain⟨⟨g,d⟩,_⟩:=e;refine⟨g,?_⟩
  cases f:bS T (.mk k n a s args b c)with
  | none=>rw[f]at d;cases d
  | some ts=>rw[f]at d;exact⟨ts,rfl,d⟩
