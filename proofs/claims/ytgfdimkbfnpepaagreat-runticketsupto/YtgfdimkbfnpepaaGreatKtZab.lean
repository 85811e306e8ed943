import Derived.Test.YtgfdimkbfnpepaaGreatKtZaa
namespace Go.Proofs.YtgfdimkbfnpepaaGreat
set_option linter.all false
open Go.Proofs.Tryz
set_option maxRecDepth 100000
set_option maxHeartbeats 4000000
open Go.ChangeShapes Go.WideShapes Go.ChangeAt Go.RowKit
variable {ops:Array Oper}{q1 q2 rc:Array cg}{Q:Exit->Act->bx->Prop}{p q t:Int}{f inn:Int->Bool}{rows:List ao}{rest:List Oper}{r ts x y:ao}{vs vs' xs:bk}{B H c cap g i l n r1 r2 size tb:Nat}{ok:br}{o:Oper}{a:bj}{T:Ty}{e:TypeId}{u v v':cg}{W w w' w0:bx}
structure qj (w0 w:bx) (wb tb fb rb kw kf:Nat) (rc:Array cg) (v:cg) (vs:bk):Prop where
 grown:cm w0 w none
 OV:w0.heap.size<=tb
 win:w.heap[wb]?=some (.cells #[.func (.func kw) #[] #[]] 148 (0,0))
 fin:w.heap[fb]?=some (.cells #[.func (.func kf) #[] #[]] 83 (0,0))
 tF:w.heap[tb]?=some (.cells #[v] 153 (0,0))
 row:w.heap[rb]?=some (.cells rc 54 (0,0))
 own:zJ w0.heap.size w v vs
def qj.alloc{d c fb rb b a:Nat}(h:qj w0 w d c fb rb b a rc v vs)(o:Obj):qj w0 (w.alloc o) d c fb rb b a rc v vs :=
 ⟨aJ h.grown (aK _),h.OV,aB h.win,aB h.fin,aB h.tF,aB h.row,ue h.own _⟩
def qj.call{e d fb rb c b:Nat}(h:qj w0 w e d fb rb c b rc v vs)(a:cm w w' none):qj w0 w' e d fb rb c b rc v vs :=
 ⟨aJ h.grown a,h.OV,(a.block _ (qa3 h.win) ot).trans h.win,(a.block _ (qa3 h.fin) ot).trans h.fin,(a.block _ (qa3 h.tF) ot).trans h.tF,(a.block _ (qa3 h.row) ot).trans h.row,
  yq h.own a (by cases v.ownBlock<;>simp)⟩
def qj.push{d c fb rb l k:Nat}(h:qj w0 w d c fb rb l k rc v vs)(a:Gr w v w' v')(f:zJ w0.heap.size w' v' (vs++[u])):qj w0 (w'.setCell ⟨c,0,none⟩ v') d c fb rb l k rc v' (vs++[u]):=by
 have g:w'.heap[d]?=_:=(a.block (qa3 h.win) (aD h.own h.win ov)).trans h.win;have i:w'.heap[fb]?=_:=(a.block (qa3 h.fin) (aD h.own h.fin ov)).trans h.fin;have b:w'.heap[c]?=_:=(a.block (qa3 h.tF) (aD h.own h.tF ov)).trans h.tF;have j:w'.heap[rb]?=_:=(a.block (qa3 h.row) (aD h.own h.row ov)).trans h.row;refine⟨aX (dX h.grown h.own (qS _) a.1) h.OV _ _ _,h.OV,?_,?_,ka2 b,?_,jh5 f (λe=>aD f b ov e.symm) _⟩
 .rw[Below.heap_setCell _ _ _ _ (dC g b ov)];exact g
 .rw[Below.heap_setCell _ _ _ _ (dC i b ov)];exact i
 .rw[Below.heap_setCell _ _ _ _ (dC j b ov)];exact j
def qj.pop{i b fb rb f d g n cap:Nat}(h:qj w0 w i b fb rb f d rc (.o g (n+1) cap) (vs++[u]))(hn:vs.length=n):qj w0 (w.setCell ⟨b,0,none⟩ (.o g n cap)) i b fb rb f d rc (.o g n cap) vs:=by
 have a:=h.own;unfold zJ at a;rw[qT,hn]at a;have c:=Av a;refine⟨aX h.grown h.OV _ _ _,h.OV,?_,?_,ka2 h.tF,?_,?_⟩
 .rw[Below.heap_setCell _ _ _ _ (dC h.win h.tF ov)];exact h.win
 .rw[Below.heap_setCell _ _ _ _ (dC h.fin h.tF ov)];exact h.fin
 .rw[Below.heap_setCell _ _ _ _ (dC h.row h.tF ov)];exact h.row
 .unfold zJ;rw[hn];exact jh5 c (λe=>aD c h.tF ov e.symm) _
def qj.same{g f fb rb e d:Nat}(h:qj w0 w g f fb rb e d rc v vs)(c:qj w0 w' g f fb rb e d rc v' vs'):Same (λb=>b<w0.heap.size\/b=rb) w w':=by
 intro b o a _;refine qt ?_;rcases a with a|rfl
 .exact (c.grown.block b a ot).trans (h.grown.block b a ot).symm
 .exact c.row.trans h.row.symm
def Tv (ok:br) (w:bx) (r:ao) (u:cg):Prop:=∃a c V,u =.slice a r.length c/\dw ok w r a V
def l6 (ok:br) (w:bx) (rows:List ao) (vs:bk):Prop:=rows.length=vs.length/\∀(i:Nat) (r:ao) (u:cg),rows[i]?=some r->vs[i]?=some u->Tv ok w r u
def l6.snoc(h:l6 ok w rows vs)(e:Tv ok w r u):l6 ok w (rows++[r]) (vs++[u]):=by
 refine⟨by simp[h.1],λi f g a b=>?_⟩
 by_cases d:i<rows.length
 .rw[jz d]at a;rw[jz (by rw[<-h.1];exact d)]at b;exact h.2 i f g a b
 .have c:i=rows.length:=by
   have:=(qv.1 a).1;simp at this;omega
  subst c;rw[ju (qS _)]at a;rw[h.1,ju (qS _)]at b;simp at a b;subst a;subst b;exact e
def l6.KL(h:l6 ok w (rows++[r]) (vs++[u])):l6 ok w rows vs/\Tv ok w r u:=by
 have c:rows.length=vs.length:=by have:=h.1;simp at this;exact this
 refine⟨⟨c,λi f g a b=>?_⟩,?_⟩
 .have d:=(qv.1 a).1;have e:=(qv.1 b).1;exact h.2 i f g (by rw[jz d];exact a) (by rw[jz e];exact b)
 .exact h.2 rows.length r u (by rw[ju (qS _)];simp) (by rw[c,ju (qS _)];simp)
def l6.last(h:l6 ok w rows vs)(hn:0<vs.length):∃c r vs' u,rows=c++[r]/\vs=vs'++[u]/\l6 ok w c vs'/\Tv ok w r u:=by
 have g:rows≠[]:=by intro e;rw[e]at h;have:=h.1;simp at this;omega
 have i:vs≠[]:=by intro e;rw[e]at hn;simp at hn
 have d:=(qf7 g).symm;have f:=(qf7 i).symm;rw[d,f]at h;have⟨a,b⟩:=h.KL;exact⟨_,_,_,_,d,f,a,b⟩
def QG{I E fb rb r B:Nat}(o:qj w0 w I E fb rb r B rc v vs)(Q:Within r inn)(P:Mk B f)(T:l<=maxLen)(y:vs.length<=100000000)
 (ekw:∀args w,(callFunc r args).run prog w =.ok (.enter r args) w) (ekf:∀args w,(callFunc B args).run prog w =.ok (.enter B args) w) :
 Calls prog 186 #[bY t a l c,.po I,.po E,.po fb] w λe w'=>e =.returned (.bool (f t)) /\
  ∃v',qj w0 w' I E fb rb r B rc v' (vs++if inn t/\0<l then [.slice a l c]else []):=by
 unfold maxLen at T;have⟨HI,C,J⟩:=we o (Q t a l c (w.alloc (.cells #[.i t,.slice a l c] 54))) P;have M:=qf2 o.win;have N:=qf2 o.tF;have O:=qf2 o.fin;have l1:=qa3 o.win;have l2:=qa3 o.tF;have l3:=qa3 o.fin;clear o Q P
 by_cases q:inn t/\0<l
 .have U:(0:Int)<(l:Int):=by omega
  have m:=C.out;rw[if_pos q.1]at m;have j:=jh m;rw[if_pos q];clear C m q;unfold bY at j|-;go_enter func186,ntmps186;go_wp2_with fail;refine j.mono ?_;rintro e F ⟨rfl,p⟩;have d:=(HI.out.alloc (.cells #[.i t,.slice a l c] 54)).call p;have k:F.heap[w.heap.size]?=some (.cells #[.i t,.slice a l c] 54 (0,0)):=(p.block w.heap.size ot ot).trans (jj _ _);have h:=jh k;have Z:=qf2 d.tF;have b:=jh d;have A:=jh d.own;have S:=d.grown.size;clear p d k M N O HI;go_wp2_with (at_builtin;refine Y3 w0.heap.size vs a l c F v rfl (.tmp 13) (.tmp 15) rfl rfl rfl rfl A S y ?_;intro g cap w2 z x;have G:=jh z;have n:=jh x;clear z x;have D:=(n.out.block (qa3 b.tF) (aD b.own b.tF ov)).trans b.tF;have m3:=jf3 D;have m4:=qf2 D;have s:=jh (b.push n G);have V:=qf2 s.fin;have X:=xq ((Below.heap_setCell _ ⟨E,0,none⟩ (.o g (vs.length+1) cap) _ (dC ((n.block (qa3 h) (aD b.own h ov)).trans h) D ov)).trans ((n.block (qa3 h) (aD b.own h ov)).trans h));clear D);refine (J t _).mono ?_;rintro e Y ⟨rfl,rfl⟩;go_wp2;go_ret;exact⟨rfl,_,s⟩
 .have m:∃K L,∀W,(W=w.alloc (.cells #[.i t,.slice a l c] 54))->Calls prog r #[bY t a l c] W λe w'=>e =.returned (.slice K 0 L)/\cm W w' none:=by
   have m:=C.out
   by_cases H:inn t
   .have : l=0:=by
     by_cases R:0<l
     .exact absurd ⟨H,R⟩ q
     .omega
    subst this;rw[if_pos H]at m;exact⟨a,c,λW e=>by subst e;exact m⟩
   .rw[if_neg H]at m;exact⟨none,0,λW e=>by subst e;exact m⟩
  have⟨K,L,u⟩:=m;have j:=jh (u _ rfl);rw[if_neg q,qd1];clear C u q;unfold bY at j|-;go_enter func186,ntmps186;go_wp2_with fail;refine j.mono ?_;rintro e F ⟨rfl,p⟩;have d:=(HI.out.alloc (.cells #[.i t,.slice a l c] 54)).call p;have k:F.heap[w.heap.size]?=some (.cells #[.i t,.slice a l c] 54 (0,0)):=(p.block w.heap.size ot ot).trans (jj _ _);have X:=xq k;have V:=qf2 d.fin;have b:=jh d;clear p d k M N O HI;go_wp2_with fail;refine (J t _).mono ?_;rintro e Y ⟨rfl,rfl⟩;go_wp2;go_ret;exact⟨rfl,_,b⟩
def ent_all1:∀args w,(callFunc 186 args).run prog w =.ok (.enter 186 args) w:=λargs w=>OK
def aw (w:bx) (t:Int) (a:bj) (l c kw kf:Nat):bx :=
 (((((w.alloc (.cells #[.i t,.slice a l c] 54)).alloc (.cells #[.func (.func kw) #[] #[]] 148)).alloc (.cells #[.func (.func kf) #[] #[]] 83)).alloc
   (.cells #[.i t,.slice a l c] 54)).alloc (.cells #[.o (w.heap.size+1+1+1) 1 1] 27)).alloc (.cells #[.o (w.heap.size+1+1+1+1) 1 1] 153)
def PV(w:bx)(t:Int)(a:bj)(l c b d:Nat):qj w (aw w t a l c b d) (w.heap.size+1) (w.heap.size+1+1+1+1+1) (w.heap.size+1+1) (w.heap.size+1+1+1) b d #[.i t,.slice a l c]
 (.o (w.heap.size+1+1+1+1) 1 1) [.o (w.heap.size+1+1+1) 1 1]:=by
 have e:=jj (w.alloc (.cells #[.i t,.slice a l c] 54)) (.cells #[.func (.func b) #[] #[]] 148);have f:=jj ((w.alloc (.cells #[.i t,.slice a l c] 54)).alloc (.cells #[.func (.func b) #[] #[]] 148)) (.cells #[.func (.func d) #[] #[]] 83);have g:=jj (((w.alloc (.cells #[.i t,.slice a l c] 54)).alloc (.cells #[.func (.func b) #[] #[]] 148)).alloc (.cells #[.func (.func d) #[] #[]] 83)) (.cells #[.i t,.slice a l c] 54);have h:=jj ((((w.alloc (.cells #[.i t,.slice a l c] 54)).alloc (.cells #[.func (.func b) #[] #[]] 148)).alloc (.cells #[.func (.func d) #[] #[]] 83)).alloc (.cells #[.i t,.slice a l c] 54))
  (.cells #[.o (w.heap.size+1+1+1) 1 1] 27)
 have j:=jj (((((w.alloc (.cells #[.i t,.slice a l c] 54)).alloc (.cells #[.func (.func b) #[] #[]] 148)).alloc (.cells #[.func (.func d) #[] #[]] 83)).alloc (.cells #[.i t,.slice a l c] 54)).alloc
  (.cells #[.o (w.heap.size+1+1+1) 1 1] 27)) (.cells #[.o (w.heap.size+1+1+1+1) 1 1] 153)
 simp only[yv]at e f g h j;refine⟨aJ (aK _) (aJ (aK _) (aJ (aK _) (aJ (aK _) (aJ (aK _) (aK _))))),od,?_,?_,j,?_,?_⟩
 .exact aB (aB (aB (aB e)))
 .exact aB (aB (aB f))
 .exact aB (aB g)
 .exact⟨rfl,.inr ⟨w.heap.size+1+1+1+1,1,#[.o (w.heap.size+1+1+1) 1 1],rfl,od,aB h,ot,ZS,rfl,rfl⟩⟩
def Sr (w0 W1:bx) (kw kf:Nat) (rc:Array cg) (inn f:Int->Bool) (T:Ty) (n:Nat) (wr:bx):Prop :=
 ∃(v:cg) (vs:bk) (rows:List ao),qj w0 wr (w0.heap.size+1) (w0.heap.size+1+1+1+1+1) (w0.heap.size+1+1) (w0.heap.size+1+1+1) kw kf rc v vs /\
  l6 (λb=>b<w0.heap.size\/b=w0.heap.size+1+1+1) W1 rows vs/\leftOf rows=n/\n<=T.size+1/\rows.all (ow inn f)=sW inn f T
def Bf (f:Int->Bool) (r:ao) (i:Nat):Bool:=match r[i]? with
 | some x=>f x.t
 | none=>true
def gI(g o x:Nat):(⟨g,o,none⟩:Addr).add x=⟨g,o+x,none⟩:=oX
def mg(h:w.ownsRow B e size v n xs)(hn:n=0):∃a c,v =.slice a 0 c:=by
 rcases h.2 with⟨rfl,_⟩|⟨g,cap,b,rfl,_⟩
 .exact⟨_,_,rfl⟩
 .exact⟨_,_,by rw[hn]⟩
def QX(h:w.ownsRow B e size (.o g n cap) n xs):n<=cap/\cap<=maxLen:=by
 rcases h.2 with⟨a,_⟩|⟨i,b,c,a,_,_,d,f,_⟩
 .simp at a
 .simp only[kl,true_and]at a;rw[a.2];exact⟨d,f⟩
def Hz{x:Ty}{V:bt}(h:l6 ok W rows vs)(g:dw ok W x.args a V) :
 l6 ok W (rows++pushes inn x) (vs++if inn x.t/\0<x.args.length then [.slice a x.args.length c]else []):=by
 by_cases b:inn x.t/\0<x.args.length
 .have e:pushes inn x=[x.args]:=by
   have⟨t,args⟩:=x;have d:inn t:=b.1;have f:0<args.length:=b.2
   cases args with
   | nil=>simp at f
   | cons y l=>simp[pushes,rowOf,d,Ty.args]
  rw[if_pos b,e];exact h.snoc ⟨a,c,V,rfl,g⟩
 .have e:pushes inn x=[]:=by
   have⟨t,args⟩:=x
   cases args with
   | nil=>simp[pushes,rowOf]
   | cons y l =>
    have d:¬inn t:=λh=>b ⟨h,by simp[Ty.args]⟩;simp[pushes,d]
  rw[if_neg b,e];simpa using h
def Al{p l:Nat}(hw:Within p inn)(hf:Mk l f)(aa:∀args w,(callFunc p args).run prog w =.ok (.enter p args) w)(Z:∀args w,(callFunc l args).run prog w =.ok (.enter l args) w)
 (hL:aH (· < w0.heap.size) w0 T v) (hz:T.size<=50000000) :
 Calls prog 140 #[v,.func (.func p) #[] #[],.func (.func l) #[] #[]] w0 λe w'=>e =.returned (.bool (sW inn f T))/\cm w0 w' none:=by
 obtain⟨a,c,V,rfl,it,hR⟩:=hL.inv;have⟨μ,hμ⟩:=mM (Sr w0 (aw w0 T.t a T.args.length c p l) p l #[.i T.t,.slice a T.args.length c] inn f T);have h0:Sr w0 (aw w0 T.t a T.args.length c p l) p l #[.i T.t,.slice a T.args.length c] inn f T (T.size+1) (aw w0 T.t a T.args.length c p l):=by
  have q:=PV w0 T.t a T.args.length c p l;refine⟨_,_,[[T]],q,⟨rfl,?_⟩,by simp[leftOf,tysizes],qS _,by simp[ow]⟩;intro i r u F D
  cases i with
  | zero =>
   simp at F D;subst F;subst D;refine⟨some ⟨w0.heap.size+1+1+1,0,none⟩,1,λ_=>bY T.t a T.args.length c,rfl,ZS,λi y=>?_,λi y=>?_⟩
   .have : i=0:=by simpa using y
    subst this;exact⟨_,0,rfl,.inr rfl,T.t,a,T.args.length,c,rfl,xq q.row,wy q.row⟩
   .have : i=0:=by simpa using y
    subst this;have hs:Same (· < w0.heap.size) w0 (aw w0 T.t a T.args.length c p l):=λb o H _=>qt (q.grown.block b H ot);exact (hL.same hs).ae (λb _ H=>.inl H)
  | succ i=>simp at F
 have au:T.args.length<=maxLen:=hR.1;unfold maxLen at au;have H0:=jh h0;have HM:=jh hμ;clear h0 hμ hR hL it;unfold bY;go_enter func140,ntmps140;go_wp2_with fail;go_loopw [9] (λ_ wr=>∃n,Sr w0 (aw w0 T.t a T.args.length c p l) p l #[.i T.t,.slice a T.args.length c] inn f T n wr) (λ_ wr=>μ wr)
 case atStart=>exact⟨_,H0⟩
 case round =>
  have⟨n0,K⟩:=hrel;have⟨v1,vs,rows,q,d,hn,S,j⟩:=(HM.out wr n0 K).1;have c1:=qf2 q.tF;have f1:=jf3 q.tF
  by_cases hv:vs.length=0
  .obtain⟨a0,ay,rfl⟩:=mg q.own hv;have E:sW inn f T:=by
    have F:=d.1;have D:rows=[]:=jb7.1 od;rw[D]at j;exact j.symm
   have HR:=jh E;have HI:=jh q;clear q d hn S j E K;go_wp2;go_ret;exact⟨by rw[HR.out];rfl,HI.grown⟩
  .obtain⟨h,r,vs',u,rfl,rfl,z,M,N,Vr,rfl,B⟩:=d.last od;have J:(vs'++[Value.slice M r.length N]).length=vs'.length+1:=by simp
   have A:=World.ownsRow.form q.own od;rw[J]at A;obtain⟨g,cap,rfl,_,_⟩:=A;have R:vs'.length+1<=cap/\cap<=maxLen:=by have ho:=q.own;unfold zJ at ho;rw[J]at ho;exact QX ho
   have ah:vs'.length<=cap:=od
   have ai:¬cap=0:=od
   have aj:wr.cell? ⟨g,vs'.length,none⟩=some (.slice M r.length N):=by have:=qb0 q.own (g:=g) rfl vs'.length (.slice M r.length N) ot;rw[gI,qa2]at this;exact this
   have O:=q.pop rfl;have ad:vs'.length+1<=50000001:=by have F:=d.1;have D:=GU (h++[r]);omega
   have I:leftOf h+(tysizes r+1)=μ wr:=by rw[<-hn,kG,CR]
   have hE:Calls prog 97 #[.slice M r.length N,.func (.func 186) #[] #[.po (w0.heap.size+1),.po (w0.heap.size+1+1+1+1+1),.po (w0.heap.size+1+1)]]
    (wr.setCell ⟨w0.heap.size+1+1+1+1+1,0,none⟩ (.o g vs'.length cap)) λe w'=>(e =.returned (.bool true)/\∃m,m<μ wr/\Sr w0 (aw w0 T.t a T.args.length c p l) p l #[.i T.t,.slice a T.args.length c] inn f T m w') \/
     (e =.returned (.bool false)/\sW inn f T=false/\cm w0 w' none):=by
    refine (yQ 186 _ r.length M N Vr (Bf f r) (λi w=>∃L k,qj w0 w (w0.heap.size+1) (w0.heap.size+1+1+1+1+1) (w0.heap.size+1+1) (w0.heap.size+1+1+1) p l #[.i T.t,.slice a T.args.length c] L k /\
     l6 (λb=>b<w0.heap.size\/b=w0.heap.size+1+1+1) (aw w0 T.t a T.args.length c p l) (h++(r.take i).flatMap (pushes inn)) k) (λw=>cm w0 w none) B.1 ent_all1 ?_ ?_ ?_ _ ⟨_,vs',O,by simpa using z⟩).mono ?_
    .rintro i w y ⟨L,k,s,_⟩;exact ((B.2.1 i y).same ((PV w0 T.t a T.args.length c p l).same s)).ae (λ_ _ _=>trivial)
    .rintro i w o ⟨L,k,s,G⟩;exact⟨L,k,s.alloc o,G⟩
    .rintro i w y ⟨L,k,s,G⟩;have⟨ax,cx,Vx,ab,_,Q⟩:=(B.2.2 i y).inv;have U:k.length<=100000000:=by
      have h5:=G.1;have h6:=GU (h++(r.take i).flatMap (pushes inn));have h7:=mZ inn (r.take i);have h8:=sQ r i;rw[kG]at h6;omega
     rw[ab];refine (QG s hw hf Q.1 U aa Z).mono ?_;rintro e w' ⟨rfl,v',P⟩;have aq:Bf f r i=f (r[i]).t:=by simp[Bf,qn y]
     rw[aq];refine⟨rfl,λ_=>⟨v',_,P,?_⟩,λ_=>P.grown⟩;rw[xI _ _ _ y,<-ur];exact Hz G Q
    .rintro e w' (⟨rfl,⟨L,k,s,G⟩,H⟩|⟨i,y,H,rfl,X⟩)
     .rw[qh4]at G;have W:∀x∈r,f x.t:=by
       intro x hx;obtain⟨i,y,rfl⟩:=ub hx;have:=H i y;simpa[Bf,qn y]using this
      have h7:=mZ inn r;refine .inl ⟨rfl,leftOf (h++r.flatMap (pushes inn)),?_,L,k,_,s,G,rfl,?_,?_⟩
      .rw[kG];omega
      .rw[kG];omega
      .rw[<-j,qe6,qe6,<-xh inn f r W];simp
     .refine .inr ⟨rfl,?_,X⟩;have C:f (r[i]).t=false:=by simpa[Bf,qn y]using H
      rw[<-j,qe6];simp[PR inn f r i y C]
   have HE:=jh hE;have az:(vs'.length:Int)<=4611686018427387904:=od
   clear hz ad hv R hE O q d z B hn S j K J I;go_wp2_with fail;refine HE.mono ?_;rintro e w2 (⟨rfl,hm⟩|⟨rfl,C,X⟩)
   .have Y:=jh hm;clear hm;go_wp2_with fail;have⟨m,F,D⟩:=Y.out;go_roundw
    case rel=>exact⟨m,D⟩
    case measure=>exact je6 (HM _ m D).2 F
   .have HN:=jh C;have HG:=jh X;clear C X;go_wp2;go_ret;exact⟨by rw[HN.out];rfl,HG⟩
def aH.grow(h:aH (· < w.heap.size) w T v)(c:cm w w' none):aH (· < w'.heap.size) w' T v :=
 (h.same (w':=w') (λb o a _=>qt (c.block b a ot))).ae (λb a _=>a)
def tV(d:aH (· < w.heap.size) w T v)(h:T.size<=50000000) :
 Calls prog 99 #[v] w λe w'=>e =.returned (.bool (oF T))/\cm w w' none:=by
 obtain⟨a,c,V,rfl,l,k⟩:=d.inv;have f:=jh (Al made_any comp1_any (λb w=>OK) (λb w=>OK) (d.grow (aK (.cells #[.i T.t,.slice a T.args.length c] 54))) h);clear d k l h;unfold bY at f|-;go_enter func99,ntmps99;go_wp2_with fail;refine f.mono ?_;rintro e m ⟨rfl,g⟩;have j:=jh g;clear g;go_wp2;go_ret;exact⟨rfl,aJ (aK _) j⟩
def Jp(d:aH (· < w.heap.size) w T v)(h:T.size<=50000000) :
 Calls prog 104 #[v] w λe w'=>e =.returned (.bool (A7 T))/\cm w w' none:=by
 obtain⟨a,c,V,rfl,l,k⟩:=d.inv;have f:=jh (Al held_any copy1_any (λb w=>OK) (λb w=>OK) (d.grow (aK (.cells #[.i T.t,.slice a T.args.length c] 54))) h);clear d k l h;unfold bY at f|-;go_enter func104,ntmps104;go_wp2_with fail;refine f.mono ?_;rintro e m ⟨rfl,g⟩;have j:=jh g;clear g;go_wp2;go_ret;exact⟨rfl,aJ (aK _) j⟩
def BQ(d:aH (· < w.heap.size) w T v)(h:T.size<=50000000) :
 Calls prog 112 #[v] w λe w'=>e =.returned (.bool (eB T))/\cm w w' none:=by
 obtain⟨a,c,V,rfl,l,k⟩:=d.inv;have f:=jh (Al made_any pack1_any (λb w=>OK) (λb w=>OK) (d.grow (aK (.cells #[.i T.t,.slice a T.args.length c] 54))) h);clear d k l h;unfold bY at f|-;go_enter func112,ntmps112;go_wp2_with fail;refine f.mono ?_;rintro e m ⟨rfl,g⟩;have j:=jh g;clear g;go_wp2;go_ret;exact⟨rfl,aJ (aK _) j⟩
def KA(d:aH (· < w.heap.size) w T v)(h:T.size<=50000000) :
 Calls prog 114 #[v] w λe w'=>e =.returned (.bool (storeT T))/\cm w w' none:=by
 obtain⟨a,c,V,rfl,l,k⟩:=d.inv;have f:=jh (Al held_any store1_any (λb w=>OK) (λb w=>OK) (d.grow (aK (.cells #[.i T.t,.slice a T.args.length c] 54))) h);clear d k l h;unfold bY at f|-;go_enter func114,ntmps114;go_wp2_with fail;refine f.mono ?_;rintro e m ⟨rfl,g⟩;have j:=jh g;clear g;go_wp2;go_ret;exact⟨rfl,aJ (aK _) j⟩
def rT (args:ao) (i:Nat):Bool:=match args[i]? with
 | some x=>keyedF x
 | none=>true
def NC{args:ao}(h:∀i,i<args.length->rT args i):keyedFs args:=by rw[uu,kB];intro x b;obtain⟨i,a,rfl⟩:=ub b;simpa[rT,qn a]using h i a
def QC{args:ao}(hi:i<args.length)(h:rT args i=false):keyedFs args=false:=by
 cases a:keyedFs args with
 | false=>rfl
 | true =>
  rw[uu,kB]at a;have:=a args[i] (zd hi);simp[rT,qn hi,this]at h
def ND(hL:aH (· < w.heap.size) w T v):∀(d:Nat) (n:bx),cm w n none->j5 d T->T.size<=50000000 ->
 Calls prog 66 #[v] n λe w'=>e =.returned (.bool (keyedF T))/\cm n w' none:=by
 induction hL with
 | @mk t f a c V Y aa it L R U =>
  intro d n j F S;simp only[j5,qu,kj]at F;have⟨⟨_,_,r⟩,q⟩:=F;rw[jT,kB]at q;rw[Ty.size]at S;have P:∀s,cm n s none->Calls prog 97 #[.slice a f.length c,.func (.func 66) #[] #[]] s λe w'=>e =.returned (.bool (keyedFs f))/\cm n w' none:=by
   intro s g;refine (yQ 66 #[] f.length a c V (rT f) (λ_ wr=>cm n wr none) (λwr=>cm n wr none) Y ent_keyed ?_ ?_ ?_ _ g).mono ?_
   .intro i wr u p;exact ((L i u).same (w':=wr) (λb o C _=>qt ((aJ j p).block b C ot))).ae (λ_ _ _=>trivial)
   .intro i wr o p;exact aJ p (aK _)
   .intro i wr u p;rw[Array.append_empty];refine (U i u (d+1) wr (aJ j p) (q _ (zd u)) (by have:=jS (zd u);omega)).mono ?_;rintro e w' ⟨rfl,M⟩;have J:rT f i=keyedF f[i]:=by simp[rT,qn u]
    rw[J];exact⟨rfl,λ_=>aJ p M,λ_=>aJ p M⟩
   .rintro e w' (⟨rfl,p,C⟩|⟨i,u,C,rfl,M⟩)
    .rw[NC C];exact⟨rfl,p⟩
    .rw[QC u C];exact⟨rfl,M⟩
  unfold maxLen at Y;have W:=jh P
  by_cases N:t=13\/t=15
  .have h:0<f.length:=by
    unfold bT at r;rcases N with rfl|rfl<;>simp at r<;>omega
   obtain⟨z,H,t0,a0,l0,c0,rfl,D,G,X,J⟩:=(L 0 h).cells;have B:=R 0 h;have K:∀s,cm w s none->Calls prog 99 #[V 0] s λe w'=>e =.returned (.bool (oF f[0]))/\cm s w' none:=λs g=>tV (B.grow g) (by have:=jS (zd h);omega);rw[G]at K;unfold bY at K;have m:keyedF (.nd t f)=(oF f[0]&&keyedFs f):=by
    have e2:headComp f=oF f[0]:=by
     cases f with
     | nil=>simp at h
     | cons x l=>rfl
    simp[keyedF,uZ,N,e2]
   have ab:(n.alloc (.cells #[.i t,.slice (some ⟨z,H,none⟩) f.length c] 54)).cell? ⟨z,H,none⟩=some (.i t0):=by rw[qt ((aJ j (aK _)).block z D ot)];simpa using X
   have ad:(n.alloc (.cells #[.i t,.slice (some ⟨z,H,none⟩) f.length c] 54)).cell? ⟨z,H+1,none⟩=some (.slice a0 l0 c0):=by rw[qt ((aJ j (aK _)).block z D ot)];simpa using J
   have Q:(0:Int)<(f.length:Int):=od
   have Z:=jh (K _ (aJ j (aK (.cells #[.i t,.slice (some ⟨z,H,none⟩) f.length c] 54))));have I:=jh m;clear K P U L R q B m X J G r S;unfold bY;generalize oF f[0]=O at *;rcases N with rfl|rfl
   all_goals
    cases O
    all_goals
     go_enter func66,ntmps66;go_wp2_with fail;refine Z.mono ?_;rintro e s ⟨rfl,g⟩;have E:=(g.block n.heap.size ot ot).trans (jj _ _);have x1:=wy E;have A:=jh g;clear g E;go_wp2_with fail
   all_goals first
    | (go_ret;exact⟨by rw[I.out];rfl,aJ (aK _) A⟩)
    | (refine (W _ (aJ (aK _) A)).mono ?_;rintro e w4 ⟨rfl,k⟩
       have y:=jh k;clear k;go_wp2;go_ret;exact⟨by rw[I.out];simp,y⟩)
  .have m:keyedF (.nd t f)=keyedFs f:=by simp[keyedF,uZ,N]
   have I:=jh m;have k1:(t==13)=false:=oB
   have k2:(t==15)=false:=oB
   clear P U L R q m r S;unfold bY;go_enter func66,ntmps66;go_wp2_with fail;refine (W _ (aK _)).mono ?_;rintro e w4 ⟨rfl,k⟩;have y:=jh k;clear k;go_wp2;go_ret;exact⟨by rw[I.out];rfl,y⟩
def wG{b:Nat}(h:cm w W none)(hb:w.heap.size<=b)(a:cm W w' (some b)):cm w w' none :=
 ⟨a.os.trans h.os,a.tape.trans h.tape,a.output.trans h.output,km h.size a.size,λi c d=>(a.block i (ki c h.size) oB).trans (h.block i c d)⟩
def dE(h:bn T):j5 1 T/\T.size<=300/\keyedF T:=by simp only[bn,qu,kj]at h;exact⟨h.1.1,h.1.2,h.2⟩
def nT(x:aH (· < w.heap.size) w T v) :
 Calls prog 45 #[v] w λe w'=>e =.returned (.bool (bn T))/\cm w w' none:=by
 obtain⟨a,c,V,rfl,F,E⟩:=x.inv;have j:cm w ((w.alloc (.cells #[.i T.t,.slice a T.args.length c] 54)).alloc (.cells #[.i 0] 3)) none:=aJ (aK _) (aK _);have f:jl ((w.alloc (.cells #[.i T.t,.slice a T.args.length c] 54)).alloc (.cells #[.i 0] 3)) (w.heap.size+1) 0:=by have:=jj (w.alloc (.cells #[.i T.t,.slice a T.args.length c] 54)) (.cells #[.i 0] 3);rw[yv]at this;exact this
 have q:aH (· ≠ w.heap.size+1) ((w.alloc (.cells #[.i T.t,.slice a T.args.length c] 54)).alloc (.cells #[.i 0] 3)) T (bY T.t a T.args.length c) :=
  (x.same (λb o A _=>qt (j.block b A ot))).ae (λb _ A=>by have : b<w.heap.size:=A;show b≠_;omega)
 have hF:=Jy q 1 0 _ (Same.refl _ _) (qS _) f od od;have z:Hid (formedAt 1 0 T->∀s,cm w s none->Calls prog 66 #[bY T.t a T.args.length c] s λe w'=>e =.returned (.bool (keyedF T))/\cm s w' none):=by intro h s B;simp only[formedAt,qu,kj]at h;exact ND x 1 s B h.1 od
 have d:bn T=(formedAt 1 0 T&&keyedF T):=by simp[bn,formedAt]
 have m:=jh d;have n:=jh j;clear x E F f q d j;unfold rA at hF;rw[show (((1:Nat)):Int)=1 from rfl]at hF;generalize formedAt 1 0 T=D at *
 cases D with
 | false =>
  have l:=jh hF;clear hF z;unfold bY at l|-;go_enter func45,ntmps45;go_wp2_with fail;refine l.mono ?_;rintro e C ⟨rfl,k,_⟩;have u:=jh (wG n od k);clear k;go_wp2;go_ret;exact⟨by rw[m.out];rfl,u⟩
 | true =>
  have l:=jh hF;have p:=jh (z rfl);clear hF z;unfold bY at l p|-;go_enter func45,ntmps45;go_wp2_with fail;refine l.mono ?_;rintro e C ⟨rfl,k,_⟩;have g:C.heap[w.heap.size]?=some (.cells #[.i T.t,.slice a T.args.length c] 54 (0,0)):=(k.block w.heap.size oB ot).trans (aB (jj _ _));have H:=xq g;have I:=wy g;have u:=jh (wG n od k);clear k g;go_wp2_with fail;refine (p _ u).mono ?_;rintro e G ⟨rfl,r⟩;have y:=jh r;clear r;go_wp2;go_ret;exact⟨by rw[m.out];simp,aJ u y⟩
def rO:(prog.info? 54).map (λi=>(i.zero,i.size,i.bytes))=some (some (.agg #[.i 0,.n0]),2,32):=oA
def tyCells:cg->bk
 | .agg xs=>xs.toList
 | _=>[]
def bX (vs:bk):bk:=vs.flatMap tyCells
def wS (B:Nat) (w:bx) (v:cg) (vs:bk):Prop:=w.ownsRow B 54 2 v vs.length (bX vs)
def dx(a b:bk):bX (a++b)=bX a++bX b:=by simp[bX]
def Y4{a:Act}(B:Nat)(vs:bk)(k:Int)(sa:bj)(sl sc:Nat)(w0:bx)(v:cg)(c:o.guard=none)(s x:Operand)
 (ho:o.op =.call { callee:=.builtin .append,args:=#[s,x],argTypes:=#[27,27] }) (hs:a.eval s=v) (hx:a.eval x =.o H 1 1) (hH:w0.heap.size=H)
 (hown:wS B w0 v vs) (hB:B<=w0.heap.size) (hlen:vs.length<=1000000000000)
 (h:∀g cap w',wS B w' (.o g (vs.length+1) cap) (vs++[bY k sa sl sc])->Gr w0 v w' (.o g (vs.length+1) cap)->wpList prog ops Q rest (a.put o.dst (.o g (vs.length+1) cap)) w') :
 wpList prog ops Q (o::rest) a (w0.alloc (.cells #[.i k,.slice sa sl sc] 54)):=by
 have⟨p,n,d,e,f⟩:=ja0 rO;subst hH;refine je5 _ c s x 27 ho B 54 p _ 2 32 underlying27 n d e f rfl ov v vs.length (bX vs) hs (ue hown _) ⟨w0.heap.size,0,none⟩ 1 1 [.i k,.slice sa sl sc] hx rfl ?_ ?_ ov ?_ ?_ ?_ _ rfl ?_
 .exact jb0 (w:=w0.alloc _) (B:=w0.heap.size) (cs:=#[.i k,.slice sa sl sc]) (jj _ _)
 .intro u j;simp at j;rcases j with rfl|rfl<;>rfl
 .unfold maxLen;omega
 .omega
 .simp;omega
 .intro g cap w' l m b _;refine h g cap w' ?_ ?_
  .unfold wS;rw[dx,qT];exact l
  .refine Gr.trans (Gr.alloc (Gr.refl w0 v) _) ⟨m,?_⟩;rcases b with b|b
   .exact .inl b.symm
   .exact .inr ⟨g,rfl,od⟩
def oJ{a:Act}{K:Act->bx->Prop}{E:Prop}(B:Nat)(vs:bk)(k:Int)(sa:bj)(sl sc:Nat)(w0:bx)(v:cg)(c:o.guard=none)(s x:Operand)
 (ho:o.op =.call { callee:=.builtin .append,args:=#[s,x],argTypes:=#[27,27] }) (hs:a.eval s=v) (hx:a.eval x =.o H 1 1) (hH:w0.heap.size=H)
 (hown:wS B w0 v vs) (hB:B<=w0.heap.size) (hlen:vs.length<=1000000000000)
 (h:∀g cap w',wS B w' (.o g (vs.length+1) cap) (vs++[bY k sa sl sc])->Gr w0 v w' (.o g (vs.length+1) cap)->K (a.put o.dst (.o g (vs.length+1) cap)) w') :
 if Region.wanted o (yielded ops a.tmps)then Oper.wp prog o a (w0.alloc (.cells #[.i k,.slice sa sl sc] 54)) K Q else E:=by
 have p:Region.wanted o (yielded ops a.tmps):=by simp[Region.wanted,c]
 rw[if_pos p];have⟨q,n,d,e,f⟩:=ja0 rO;subst hH;refine wp_append_lies _ s x 27 ho B 54 q _ 2 32 underlying27 n d e f rfl ov v vs.length (bX vs) hs (ue hown _) ⟨w0.heap.size,0,none⟩ 1 1 [.i k,.slice sa sl sc] hx rfl ?_ ?_ ov ?_ ?_ ?_ _ rfl ?_
 .exact jb0 (w:=w0.alloc _) (B:=w0.heap.size) (cs:=#[.i k,.slice sa sl sc]) (jj _ _)
 .intro u j;simp at j;rcases j with rfl|rfl<;>rfl
 .unfold maxLen;omega
 .omega
 .simp;omega
 .intro g cap w' l m b _;refine h g cap w' ?_ ?_
  .unfold wS;rw[dx,qT];exact l
  .refine Gr.trans (Gr.alloc (Gr.refl w0 v) _) ⟨m,?_⟩;rcases b with b|b
   .exact .inl b.symm
   .exact .inr ⟨g,rfl,od⟩
structure gz (H:Nat) (w:bx) (v:cg) (ts:ao) (vs:bk):Prop where
 own:wS H w v vs
 len:vs.length=ts.length
 lies:∀(i:Nat) (t:Ty) (u:cg),ts[i]?=some t->vs[i]?=some u->aH (λb=>H<=b/\some b≠v.ownBlock) w t u
def gz.nil(H:Nat)(w:bx):gz H w (.n0) [] []:=⟨qg1 _ _ _ _,rfl,λi t u h=>by simp at h⟩
def gz.keep{rb:Nat}(h:gz H w v ts vs)(c:cm w w' (some rb))(e:rb<H):gz H w' v ts vs:=by
 refine⟨yq h.own c ?_,h.len,λi t u f g=>(h.lies i t u f g).same ?_⟩
 .cases j:v.ownBlock with
  | none=>exact .inl rfl
  | some k=>right;have:=(zp h.own k j).1;simp;omega
 .intro b o d a;exact qt (c.block b a (by simp;have:=d.1;omega))
def gz.push{t:Ty}{S:Nat}(h:gz H w v ts vs)(C:H<=S)(l:∀k,v.ownBlock=some k->k<S)(x:aH (S <= ·) w t u)(n:Gr w v w' v')(A:wS H w' v' (vs++[u])):gz H w' v' (ts++[t]) (vs++[u]):=by
 have m:∀t u,aH (λb=>H<=b/\some b≠v.ownBlock) w t u->aH (λb=>H<=b/\some b≠v'.ownBlock) w' t u:=by
  intro t u z;have s:=z.ae (ok':=λb=>H<=b/\some b≠v.ownBlock/\some b≠v'.ownBlock) (λb a hk=>⟨hk.1,hk.2,by
   rcases n.2 with e|⟨g,e,y⟩
   .rw[e];exact hk.2
   .rw[e];simp;omega⟩)
  refine (s.same (w':=w') ?_).ae (λb _ a=>⟨a.1,a.2.2⟩);intro b o a j;exact qt (n.block j a.2.1)
 refine⟨A,by simp[h.len],λi q r c d=>m q r ?_⟩
 by_cases p:i<ts.length
 .rw[jz p]at c;rw[jz (by rw[h.len];exact p)]at d;exact h.lies i q r c d
 .have f:i=ts.length:=by
   have:=(qv.1 c).1;simp at this;omega
  subst f;rw[ju (qS _)]at c;rw[<-h.len,ju (qS _)]at d;simp at c d;subst c;subst d;exact x.ae (λb _ a=>⟨by have : S<=b:=a;omega,λe=>by have B:=l b e.symm;have : S<=b:=a;omega⟩)
def flatT_get:∀(vs:bk),(∀u∈vs,(tyCells u).length=2)->∀(i j:Nat) (u:cg),vs[i]?=some u->j<2->(bX vs)[i*2+j]?=(tyCells u)[j]?
 | [],_,i,j,u,h,_=>by simp at h
 | x::vs,a,0,j,u,h,c=>by simp at h;subst h;have:=a x ot;simp only[bX,qd4];rw[jz od];simp
 | x::vs,a,i+1,j,u,h,c=>by have b:=a x ot;have:=flatT_get vs (λu d=>a u (by simp[d])) i j u (by simpa using h) c;simp only[bX,qd4]at this|-;rw[ju od,b,show (i+1)*2+j - 2=i*2+j from by omega];exact this
def aH.bY{t:Ty}(h:aH ok w t u):∃k a l c,u=bY k a l c:=by cases h;exact⟨_,_,_,_,rfl⟩
def gz.done(h:gz H w v ts vs) :
 ∃(a:bj) (c:Nat) (V:bt),v =.slice a ts.length c/\(∀i,i<ts.length->rC (H <= ·) w a i (V i))/\(∀i (hi:i<ts.length),aH (H <= ·) w ts[i] (V i)):=by
 have E:=h.len;have f:∀i (hi:i<ts.length),∃u,vs[i]?=some u/\aH (H <= ·) w ts[i] u:=by
  intro i hi;have y:i<vs.length:=od
  exact⟨vs[i],qn y,(h.lies i ts[i] vs[i] (qn hi) (qn y)).ae (λb _ A=>A.1)⟩
 have q:∀u∈vs,(tyCells u).length=2:=by intro u G;obtain⟨i,hi,rfl⟩:=ub G;have⟨u,e,m⟩:=f i od;rw[qn hi]at e;simp at e;have⟨k,a,l,c,o⟩:=m.bY;rw[e,o];rfl
 have s:=h.own;unfold wS at s;rcases s.2 with⟨rfl,J⟩|⟨g,cap,z,rfl,r,K,F,B,C,t⟩
 .have p:ts.length=0:=by omega
  exact⟨none,0,λ_=>.i 0,by rw[p],λi hi=>od,λi hi=>od⟩
 .refine⟨some ⟨g,0,none⟩,cap,λi=>(vs[i]?).getD (.i 0),by rw[E],λi hi=>?_,λi hi=>?_⟩
  .have⟨u,e,m⟩:=f i hi;have⟨k,a,l,c,o⟩:=m.bY;have d:∀j x,j<2->(tyCells u)[j]?=some x->w.cell? ⟨g,i*2+j,none⟩=some x:=by
    intro j x D I;have:=qb0 s (g:=g) rfl (i*2+j) x (by rw[flatT_get vs q i j u e D];exact I);have n:(⟨g,0,none⟩:Addr).add (i*2+j)=⟨g,i*2+j,none⟩:=oX
    rwa [n]at this
   rw[o]at d;refine⟨g,0,rfl,r,k,a,l,c,by show (vs[i]?).getD _=_;rw[e];exact o,?_,?_⟩
   .have:=d 0 _ od rfl;simpa using this
   .have:=d 1 _ od rfl;simpa using this
  .have⟨u,e,m⟩:=f i hi;show aH _ _ _ ((vs[i]?).getD _);rw[e];exact m
mutual
def sameT:Ty->Ty->Bool
 | .nd t xs,.nd u ys=>decide (t=u)&&sameTs xs ys
def sameTs:ao->ao->Bool
 | [],[]=>true
 | a::xs,b::ys=>sameT a b&&sameTs xs ys
 | [],_::_=>false
 | _::_,[]=>false
end
mutual
def sameT_refl:∀t,sameT t t
 | .nd t a=>by simp[sameT,sameTs_refl a]
def sameTs_refl:∀l,sameTs l l
 | []=>by simp[sameTs]
 | t::ts=>by simp[sameTs,sameT_refl t,sameTs_refl ts]
end
def sameTs_len:∀{a b:ao},sameTs a b->a.length=b.length
 | [],[],_=>rfl
 | _::_,[],h=>by simp[sameTs]at h
 | [],_::_,h=>by simp[sameTs]at h
 | a::xs,b::c,h=>by simp only[sameTs,qu]at h;simp[sameTs_len h.2]
def mX (p:Ty×Ty):ao×ao:=(p.1.args,p.2.args)
def sJ (r:ao×ao):Bool:=sameTs r.1 r.2
def zU(x y:Ty):sameT x y=(decide (x.t=y.t)&&sJ (x.args,y.args)):=by have⟨t,xs⟩:=x;have⟨u,a⟩:=y;rw[sameT];rfl
def sameTs_zip:∀(x y:ao),x.length=y.length->(∀p∈x.zip y,p.1.t=p.2.t)->sameTs x y=((x.zip y).map mX).all sJ
 | [],[],_,_=>by simp[sameTs]
 | _::_,[],h,_=>by simp at h
 | [],_::_,h,_=>by simp at h
 | a::xs,b::g,h,c=>by have f:=sameTs_zip xs g (by simpa using h) (λp e=>c p (by simp[e]));have d:=c (a,b) ot;rw[sameTs,f,zU];simp[mX,show a.t=b.t from d]
def Oq(x y:ao)(i:Nat)(d:i<x.length)(e:i<y.length)(c:(x[i]).t≠(y[i]).t):sameTs x y=false:=by
 induction x generalizing y i with
 | nil=>simp at d
 | cons a xs f =>
  cases y with
  | nil=>simp[sameTs]
  | cons b g =>
   cases i with
   | zero =>
    have : a.t≠b.t:=c;simp[sameTs,zU,this]
   | succ i =>
    have:=f g i (by simpa using d) (by simpa using e) (by simpa using c);simp[sameTs,this]
def iD (rows:List (ao×ao)):Nat:=(rows.map λr=>tysizes r.1+1).sum
def oI(a b:List (ao×ao)):iD (a++b)=iD a+iD b:=by simp[iD]
def BA(r:ao×ao):iD [r]=tysizes r.1+1:=by simp[iD]
def NF(rows:List (ao×ao)):rows.length<=iD rows:=by
 induction rows with
 | nil=>simp
 | cons r l a=>simp only[iD,qc3,ka7,jt]at a|-;omega
def zip_left:∀(x y:ao),iD ((x.zip y).map mX)<=tysizes x
 | [],_=>by simp[iD]
 | _::_,[]=>by simp[iD]
 | a::xs,b::c=>by
  have e:=zip_left xs c;have h:iD (((a::xs).zip (b::c)).map mX)=(tysizes a.args+1)+iD ((xs.zip c).map mX):=by simp[iD,mX]
  have d:a.size=tysizes a.args+1:=by have⟨t,l⟩:=a;simp[Ty.size,Ty.args]
  rw[h,tysizes];omega
def Dq(k:Nat)(cap:Array cg)(n:Nat)(a L:bj)(c R:Nat)(V K:bt)(b:Nat->Bool)(I:Nat->bx->Prop)(J:bx->Prop)(hn:n<=maxLen)(Z:∀args w,(callFunc k args).run prog w =.ok (.enter k args) w)
 (hrow:∀i w,i<n->I i w->rC (λ_=>True) w a i (V i)) (hrow2:∀i w,i<n->I i w->rC (λ_=>True) w L i (K i)) (hall:∀i w o,I i w->I i (w.alloc o))
 (hcall:∀i w,i<n->I i w->Calls prog k (#[V i,K i]++cap) w λe w'=>e =.returned (.bool (b i))/\(b i->I (i+1) w')/\(b i=false->J w')) (w:bx) (h0:I 0 w) :
 Calls prog 38 #[.slice a n c,.slice L n R,.func (.func k) #[] cap] w λe w'=>(e =.returned (.bool true)/\I n w'/\∀i,i<n->b i)\/(∃i,i<n/\b i=false/\e =.returned (.bool false)/\J w'):=by
 unfold maxLen at hn;have⟨H,q,y,G,E⟩:=wg hrow hrow2 hall hcall h0;clear hrow hrow2 hall hcall h0;go_enter func38,ntmps38;go_wp2_with fail;go_loopw [17] (λi wr=>∃j:Nat,j<=n/\i =.i j/\I j wr/\∀m,m<j->b m) (λi _=>n - (intOf i).toNat)
 case atStart=>exact⟨0,zE _,rfl,E,λm S=>od⟩
 case round =>
  obtain⟨j,hj,rfl,g,s⟩:=hrel;have F:=jh s;clear s
  by_cases f:j<n
  .obtain⟨W,o,t,O,l,Q,rfl,_,M,X,Y⟩:=(H.out j wr f g).cells;have p:=y.out j wr (.cells #[.i t,.slice O l Q] 54) g;obtain⟨P,o2,U,A,T,B,rfl,_,v,g0,g1⟩:=(q.out j _ f p).cells;have r:=y.out j _ (.cells #[.i U,.slice A T B] 54) p;have x:=G.out j _ f r;rw[M,v]at x;unfold bY at x;have N:=jh x;clear x p r g M v H q y G E;go_wp2_with fail;refine N.mono ?_;rintro e w' ⟨rfl,C,D⟩
   cases d:b j with
   | true =>
    have HI:=jh (C d);have h:=jh d;clear C D d;go_wp2;go_roundw
    case rel=>exact⟨j+1,od,OS,HI,λm S=>by
     by_cases e:m=j
     .subst e;exact h
     .exact F m od⟩
    case measure=>simp[intOf];omega
   | false =>
    have z:=jh (D d);have h:=jh d;clear C D d;go_wp2;go_ret;exact .inr ⟨j,f,h,rfl,z⟩
  .have u:j=n:=by omega
   have HI:=jh g;have z:=jh u;clear g u;go_wp2;go_ret;have g:=HI.out;have s:=F.out;rw[z.out]at g s;exact .inl ⟨rfl,g,s⟩
def Dr(f:cg)(n b:Nat)(a d:bj)(c g:Nat)(k:n≠b)(i:n<=maxLen)(j:b<=maxLen)(w:bx) :
 Calls prog 38 #[.slice a n c,.slice d b g,f] w λe w'=>e =.returned (.bool false)/\w'=w:=by
 have h:((n:Int)==(b:Int))=false:=oB
 unfold maxLen at i j;go_enter func38,ntmps38;go_wp2;go_ret;exact⟨rfl,rfl⟩
def Ud:(prog.info? 95).map (λi=>(i.zero,i.size,i.bytes))=some (some (.agg #[.n0,.n0]),2,48):=oA
def wC (a1:bj) (l1 c1:Nat) (a2:bj) (l2 c2:Nat):cg:=.agg #[.slice a1 l1 c1,.slice a2 l2 c2]
def zI (B:Nat) (w:bx) (v:cg) (vs:bk):Prop:=w.ownsRow B 95 2 v vs.length (bX vs)
def Y2{a:Act}(B:Nat)(vs:bk)(b:bj)(i d:Nat)(c:bj)(l2 e:Nat)(w0:bx)(v:cg)(j:o.guard=none)(s x:Operand)
 (ho:o.op =.call { callee:=.builtin .append,args:=#[s,x],argTypes:=#[96,96] }) (hs:a.eval s=v) (hx:a.eval x =.o H 1 1) (hH:w0.heap.size=H)
 (hown:zI B w0 v vs) (hB:B<=w0.heap.size) (hlen:vs.length<=100000000)
 (h:∀g cap w',zI B w' (.o g (vs.length+1) cap) (vs++[wC b i d c l2 e])->Gr w0 v w' (.o g (vs.length+1) cap)->wpList prog ops Q rest (a.put o.dst (.o g (vs.length+1) cap)) w') :
 wpList prog ops Q (o::rest) a (w0.alloc (.cells #[.slice b i d,.slice c l2 e] 95)):=by
 have⟨t,r,k,l,m⟩:=ja0 Ud;subst hH;refine je5 _ j s x 96 ho B 95 t _ 2 48 underlying96 r k l m rfl ov v vs.length (bX vs) hs (ue hown _) ⟨w0.heap.size,0,none⟩ 1 1 [.slice b i d,.slice c l2 e] hx rfl ?_ ?_ ov ?_ ?_ ?_ _ rfl ?_
 .exact jb0 (w:=w0.alloc _) (B:=w0.heap.size) (cs:=#[.slice b i d,.slice c l2 e]) (jj _ _)
 .intro u n;simp at n;rcases n with rfl|rfl<;>rfl
 .unfold maxLen;omega
 .omega
 .simp;omega
 .intro g cap w' p q f _;refine h g cap w' ?_ ?_
  .unfold zI;rw[dx,qT];exact p
  .refine Gr.trans (Gr.alloc (Gr.refl w0 v) _) ⟨q,?_⟩;rcases f with f|f
   .exact .inl f.symm
   .exact .inr ⟨g,rfl,od⟩
structure tO (w0 w:bx) (tb r1 r2:Nat) (q1 q2:Array cg) (v:cg) (vs:bk):Prop where
 grown:cm w0 w none
 OV:w0.heap.size<=tb
 tF:w.heap[tb]?=some (.cells #[v] 96 (0,0))
 ym:w.heap[r1]?=some (.cells q1 54 (0,0))
 yo:w.heap[r2]?=some (.cells q2 54 (0,0))
 own:zI w0.heap.size w v vs
def tO.alloc(h:tO w0 w tb r1 r2 q1 q2 v vs)(o:Obj):tO w0 (w.alloc o) tb r1 r2 q1 q2 v vs :=
 ⟨aJ h.grown (aK _),h.OV,aB h.tF,aB h.ym,aB h.yo,ue h.own _⟩
def tO.push(h:tO w0 w tb r1 r2 q1 q2 v vs)(a:Gr w v w' v')(c:zI w0.heap.size w' v' (vs++[u])):tO w0 (w'.setCell ⟨tb,0,none⟩ v') tb r1 r2 q1 q2 v' (vs++[u]):=by
 have d:w'.heap[r1]?=_:=(a.block (qa3 h.ym) (aD h.own h.ym ov)).trans h.ym;have f:w'.heap[r2]?=_:=(a.block (qa3 h.yo) (aD h.own h.yo ov)).trans h.yo;have b:w'.heap[tb]?=_:=(a.block (qa3 h.tF) (aD h.own h.tF ov)).trans h.tF;refine⟨aX (dX h.grown h.own (qS _) a.1) h.OV _ _ _,h.OV,ka2 b,?_,?_,jh5 c (λe=>aD c b ov e.symm) _⟩
 .rw[Below.heap_setCell _ _ _ _ (dC d b ov)];exact d
 .rw[Below.heap_setCell _ _ _ _ (dC f b ov)];exact f
def BN(h:w.ownsRow B e 2 (.o g (n+1) cap) (n+1) (bX (vs++[u])))(p:(tyCells u).length=2):w.ownsRow B e 2 (.o g n cap) n (bX vs):=by
 have f:bX [u]=tyCells u:=by simp[bX]
 rw[dx,f]at h;have o:=h.1;rw[qT,p]at o;refine⟨od,?_⟩;rcases h.2 with⟨a,_⟩|⟨q,c,b,a,i,j,r,k,l,m⟩
 .simp at a
 .simp only[kl,qk,qc7,and_true,true_and]at a;obtain⟨rfl,rfl⟩:=a;refine .inr ⟨g,cap,b,rfl,i,j,od,k,l,?_⟩;have d:=congrArg (List.take (n*2)) m;rw[jg7,show min (n*2) ((n+1)*2)=n*2 from by omega]at d;rw[d,jc6 od,qc0 od]
def zk{x y:cg}(h:w.ownsRow B e 2 (.o g (n+1) cap) (n+1) (bX (vs++[.agg #[x,y]]))):w.cell? ⟨g,n*2,none⟩=some x/\w.cell? ⟨g,n*2+1,none⟩=some y:=by
 have f:bX [.agg #[x,y]]=[x,y]:=by simp[bX,tyCells]
 rw[dx,f]at h;have b:=h.1;rw[qT]at b;simp only[jt,xT]at b;have a:(bX vs).length=n*2:=od
 have c:=qb0 h (g:=g) rfl (n*2) x (by rw[ju od,a];simp);have d:=qb0 h (g:=g) rfl (n*2+1) y (by rw[ju od,a];simp);rw[gI,qa2]at c d;exact⟨c,d⟩
def tO.pop(h:tO w0 w tb r1 r2 q1 q2 (.o g (n+1) cap) (vs++[u]))(hn:vs.length=n)(c:(tyCells u).length=2):tO w0 (w.setCell ⟨tb,0,none⟩ (.o g n cap)) tb r1 r2 q1 q2 (.o g n cap) vs:=by
 have a:=h.own;unfold zI at a;rw[qT,hn]at a;have b:=BN a c;refine⟨aX h.grown h.OV _ _ _,h.OV,ka2 h.tF,?_,?_,?_⟩
 .rw[Below.heap_setCell _ _ _ _ (dC h.ym h.tF ov)];exact h.ym
 .rw[Below.heap_setCell _ _ _ _ (dC h.yo h.tF ov)];exact h.yo
 .unfold zI;rw[hn];exact jh5 b (λe=>aD b h.tF ov e.symm) _
def tO.same(h:tO w0 w tb r1 r2 q1 q2 v vs)(c:tO w0 w' tb r1 r2 q1 q2 v' vs'):Same (λb=>b<w0.heap.size\/b=r1\/b=r2) w w':=by
 intro b o a _;refine qt ?_;rcases a with a|rfl|rfl
 .exact (c.grown.block b a ot).trans (h.grown.block b a ot).symm
 .exact c.ym.trans h.ym.symm
 .exact c.yo.trans h.yo.symm
def K9 (ok:br) (w:bx) (r:ao×ao) (u:cg):Prop:=∃a1 c1 V1 a2 c2 V2,u=wC a1 r.1.length c1 a2 r.2.length c2/\dw ok w r.1 a1 V1/\dw ok w r.2 a2 V2
def lF (ok:br) (w:bx) (rows:List (ao×ao)) (vs:bk):Prop:=rows.length=vs.length/\∀(i:Nat) (r:ao×ao) (u:cg),rows[i]?=some r->vs[i]?=some u->K9 ok w r u
def lF.snoc{rows:List (ao×ao)}{r:ao×ao}(h:lF ok w rows vs)(e:K9 ok w r u):lF ok w (rows++[r]) (vs++[u]):=by
 refine⟨by simp[h.1],λi f g a b=>?_⟩
 by_cases d:i<rows.length
 .rw[jz d]at a;rw[jz (by rw[<-h.1];exact d)]at b;exact h.2 i f g a b
 .have c:i=rows.length:=by
   have:=(qv.1 a).1;simp at this;omega
  subst c;rw[ju (qS _)]at a;rw[h.1,ju (qS _)]at b;simp at a b;subst a;subst b;exact e
def lF.KL{rows:List (ao×ao)}{r:ao×ao}(h:lF ok w (rows++[r]) (vs++[u])):lF ok w rows vs/\K9 ok w r u:=by
 have c:rows.length=vs.length:=by have:=h.1;simp at this;exact this
 refine⟨⟨c,λi f g a b=>?_⟩,?_⟩
 .have d:=(qv.1 a).1;have e:=(qv.1 b).1;exact h.2 i f g (by rw[jz d];exact a) (by rw[jz e];exact b)
 .exact h.2 rows.length r u (by rw[ju (qS _)];simp) (by rw[c,ju (qS _)];simp)
def lF.last{rows:List (ao×ao)}(h:lF ok w rows vs)(hn:0<vs.length):∃c r vs' u,rows=c++[r]/\vs=vs'++[u]/\lF ok w c vs'/\K9 ok w r u:=by
 have g:rows≠[]:=by intro e;rw[e]at h;have:=h.1;simp at this;omega
 have i:vs≠[]:=by intro e;rw[e]at hn;simp at hn
 have d:=(qf7 g).symm;have f:=(qf7 i).symm;rw[d,f]at h;have⟨a,b⟩:=h.KL;exact⟨_,_,_,_,d,f,a,b⟩
def NJ{o:Int}{j:bj}{l2 k:Nat}(z:tO w0 w tb r1 r2 q1 q2 v vs)(u:vs.length<=100000000) :
 Calls prog 59 #[bY t a l c,bY o j l2 k,.po tb] w λe w'=>e =.returned (.bool (decide (t=o)))/\∃v',tO w0 w' tb r1 r2 q1 q2 v' (vs++[wC a l c j l2 k]):=by
 have p:=(z.alloc (.cells #[.i t,.slice a l c] 54)).alloc (.cells #[.i o,.slice j l2 k] 54);have b:=jh p;have D:=qf2 z.tF;have E:=qa3 z.tF;have F:tb<w.heap.size+1:=od
 have m:((w.alloc (.cells #[.i t,.slice a l c] 54)).alloc (.cells #[.i o,.slice j l2 k] 54)).heap[w.heap.size]?=some (.cells #[.i t,.slice a l c] 54 (0,0)):=aB (jj _ _);have n:((w.alloc (.cells #[.i t,.slice a l c] 54)).alloc (.cells #[.i o,.slice j l2 k] 54)).heap[w.heap.size+1]?=some (.cells #[.i o,.slice j l2 k] 54 (0,0)):=by have:=jj (w.alloc (.cells #[.i t,.slice a l c] 54)) (.cells #[.i o,.slice j l2 k] 54);rw[yv]at this;exact this
 have⟨d,f,C⟩:=we m n p.grown.size;clear z p m n;unfold bY;go_enter func59,ntmps59;go_wp2_with (at_builtin;refine Y2 w0.heap.size vs a l c j l2 k ((w.alloc (.cells #[.i t,.slice a l c] 54)).alloc (.cells #[.i o,.slice j l2 k] 54)) v rfl (.tmp 6) (.tmp 12) rfl rfl rfl ot b.own C u ?_;intro g cap K x s;have B:=jh x;have h:=jh s;clear x s;have y:=(h.out.block (qa3 b.tF) (aD b.own b.tF ov)).trans b.tF;have G:=jf3 y;have H:=qf2 y;have A:=jh (b.push h B);have q:=(h.out.block (qa3 d) (aD b.own d ov)).trans d;have r:=(h.out.block (qa3 f) (aD b.own f ov)).trans f;have I:=xq ((Below.heap_setCell _ ⟨tb,0,none⟩ (.o g (vs.length+1) cap) _ (dC q y ov)).trans q);have J:=xq ((Below.heap_setCell _ ⟨tb,0,none⟩ (.o g (vs.length+1) cap) _ (dC r y ov)).trans r);clear y q r);go_ret;exact⟨rfl,_,A⟩
def ent_same1:∀args w,(callFunc 59 args).run prog w =.ok (.enter 59 args) w:=λargs w=>OK
def sw (w:bx) (t:Int) (a:bj) (l c:Nat) (t2:Int) (a2:bj) (l2 c2:Nat):bx :=
 (((((w.alloc (.cells #[.i t,.slice a l c] 54)).alloc (.cells #[.i t2,.slice a2 l2 c2] 54)).alloc (.cells #[.i t,.slice a l c] 54)).alloc (.cells #[.i t2,.slice a2 l2 c2] 54)).alloc
   (.cells #[.o (w.heap.size+1+1) 1 1,.o (w.heap.size+1+1+1) 1 1] 95)).alloc (.cells #[.o (w.heap.size+1+1+1+1) 1 1] 96)
def XO(w:bx)(t:Int)(a:bj)(l c:Nat)(e:Int)(b:bj)(l2 d:Nat):tO w (sw w t a l c e b l2 d) (w.heap.size+1+1+1+1+1) (w.heap.size+1+1) (w.heap.size+1+1+1) #[.i t,.slice a l c] #[.i e,.slice b l2 d]
 (.o (w.heap.size+1+1+1+1) 1 1) [wC (some ⟨w.heap.size+1+1,0,none⟩) 1 1 (some ⟨w.heap.size+1+1+1,0,none⟩) 1 1]:=by
 have f:=jj ((w.alloc (.cells #[.i t,.slice a l c] 54)).alloc (.cells #[.i e,.slice b l2 d] 54)) (.cells #[.i t,.slice a l c] 54);have g:=jj (((w.alloc (.cells #[.i t,.slice a l c] 54)).alloc (.cells #[.i e,.slice b l2 d] 54)).alloc (.cells #[.i t,.slice a l c] 54)) (.cells #[.i e,.slice b l2 d] 54);have h:=jj ((((w.alloc (.cells #[.i t,.slice a l c] 54)).alloc (.cells #[.i e,.slice b l2 d] 54)).alloc (.cells #[.i t,.slice a l c] 54)).alloc (.cells #[.i e,.slice b l2 d] 54))
  (.cells #[.o (w.heap.size+1+1) 1 1,.o (w.heap.size+1+1+1) 1 1] 95)
 have j:=jj (((((w.alloc (.cells #[.i t,.slice a l c] 54)).alloc (.cells #[.i e,.slice b l2 d] 54)).alloc (.cells #[.i t,.slice a l c] 54)).alloc (.cells #[.i e,.slice b l2 d] 54)).alloc
  (.cells #[.o (w.heap.size+1+1) 1 1,.o (w.heap.size+1+1+1) 1 1] 95)) (.cells #[.o (w.heap.size+1+1+1+1) 1 1] 96)
 simp only[yv]at f g h j;refine⟨aJ (aK _) (aJ (aK _) (aJ (aK _) (aJ (aK _) (aJ (aK _) (aK _))))),od,j,?_,?_,?_⟩
 .exact aB (aB (aB f))
 .exact aB (aB g)
 .exact⟨rfl,.inr ⟨w.heap.size+1+1+1+1,1,#[.o (w.heap.size+1+1) 1 1,.o (w.heap.size+1+1+1) 1 1],rfl,od,aB h,ot,ZS,rfl,rfl⟩⟩
def Tz (w0 W1:bx) (q1 q2:Array cg) (T U:Ty) (n:Nat) (wr:bx):Prop :=
 ∃(v:cg) (vs:bk) (rows:List (ao×ao)),tO w0 wr (w0.heap.size+1+1+1+1+1) (w0.heap.size+1+1) (w0.heap.size+1+1+1) q1 q2 v vs /\
  lF (λb=>b<w0.heap.size\/b=w0.heap.size+1+1\/b=w0.heap.size+1+1+1) W1 rows vs/\iD rows=n/\n<=T.size+1/\rows.all sJ=sameT T U
def sameAt (x y:ao) (i:Nat):Bool:=match x[i]?,y[i]? with
 | some p,some q=>decide (p.t=q.t)
 | _,_=>true
def zw(a:i<x.length)(b:i<y.length):sameAt x y i=decide ((x[i]).t=(y[i]).t):=by simp[sameAt,qn a,qn b]
def C8(x y:ao)(i:Nat)(a:i<x.length)(b:i<y.length):((x.zip y).map mX).take (i+1)=((x.zip y).map mX).take i++[((x[i]).args,(y[i]).args)]:=by rw[qb2 oB];simp[mX]
def VG(d:x.length=y.length)(h:∀i,i<x.length->sameAt x y i):∀p∈x.zip y,p.1.t=p.2.t:=by
 intro p c;obtain⟨i,b,rfl⟩:=ub c;rw[List.length_zip]at b;have a:i<x.length:=od
 have:=h i a;rw[zw a od]at this;simpa using this
def Rx{w0 W:bx}{t:Int}{r:Nat}(d:ok r)(e:W.heap[r]?=some (.cells #[.i T.t,.slice a T.args.length c] 54 (0,0)))(f:aH ok W T (bY T.t a T.args.length c)):dw ok W [T] (some ⟨r,0,none⟩) (λ_=>bY T.t a T.args.length c):=by
 refine⟨ZS,λi b=>?_,λi b=>?_⟩
 .have : i=0:=by simpa using b
  subst this;exact⟨_,0,rfl,d,T.t,a,T.args.length,c,rfl,xq e,wy e⟩
 .have : i=0:=by simpa using b
  subst this;exact f
def Ik{U:Ty}{E:cg}(hL:aH (· < w0.heap.size) w0 T v)(Q:aH (· < w0.heap.size) w0 U E)(hz:T.size<=50000000) :
 Calls prog 39 #[v,E] w0 λe w'=>e =.returned (.bool (sameT T U))/\cm w0 w' none:=by
 obtain⟨a,c,V,rfl,it,hR⟩:=hL.inv;obtain⟨M,N,V2,rfl,bm,ad⟩:=Q.inv;have s:=XO w0 T.t a T.args.length c U.t M U.args.length N;have⟨L,R⟩:∃W,W=sw w0 T.t a T.args.length c U.t M U.args.length N:=⟨_,rfl⟩;rw[<-R]at s;have⟨μ,hμ⟩:=mM (Tz w0 L #[.i T.t,.slice a T.args.length c] #[.i U.t,.slice M U.args.length N] T U);have h0:Tz w0 L #[.i T.t,.slice a T.args.length c] #[.i U.t,.slice M U.args.length N] T U (T.size+1) L:=by
  refine⟨_,_,[([T],[U])],s,⟨rfl,?_⟩,by simp[iD,tysizes],qS _,by simp[sJ,sameTs]⟩;intro i r u O H
  cases i with
  | zero =>
   simp at O H;subst O;subst H;have hs:Same (· < w0.heap.size) w0 L:=λb o G _=>qt (s.grown.block b G ot);exact⟨_,1,_,_,1,_,rfl,Rx (w0:=w0) (t:=T.t) (.inr (.inl rfl)) s.ym ((hL.same hs).ae (λb _ G=>.inl G)),Rx (w0:=w0) (t:=T.t) (.inr (.inr rfl)) s.yo ((Q.same hs).ae (λb _ G=>.inl G))⟩
  | succ i=>simp at O
 have bl:T.args.length<=maxLen:=hR.1;have ar:U.args.length<=maxLen:=ad.1;unfold maxLen at bl ar;have⟨H0,HM,aa,az⟩:=JT h0 hμ s R;clear h0 hμ hR ad hL Q it bm s R;unfold bY;go_enter func39,ntmps39;go_wp2_with fail;go_loopw [7] (λ_ wr=>∃n,Tz w0 L #[.i T.t,.slice a T.args.length c] #[.i U.t,.slice M U.args.length N] T U n wr) (λ_ wr=>μ wr)
 case atStart =>
  have h:=H0.out;rw[az.out]at h|-;exact⟨_,h⟩
 case round =>
  have⟨n0,Y⟩:=hrel;have⟨v1,vs,rows,F,d,hn,ai,f⟩:=(HM.out wr n0 Y).1;have d1:=qf2 F.tF;have f1:=jf3 F.tF;have cc:=qa3 F.tF
  by_cases hv:vs.length=0
  .obtain⟨a0,bp,rfl⟩:=mg F.own hv;have K:sameT T U:=by
    have O:=d.1;have H:rows=[]:=jb7.1 od;rw[H]at f;exact f.symm
   have HR:=jh K;have HI:=jh F;clear F d hn ai f K Y;go_wp2;go_ret;exact⟨by rw[HR.out];rfl,HI.grown⟩
  .obtain⟨j,r,vs',u,rfl,rfl,p,Z,c3,V3,a4,c4,V4,rfl,z,q⟩:=d.last od;have⟨x,y⟩:=r;simp only at z q;have X:(vs'++[wC Z x.length c3 a4 y.length c4]).length=vs'.length+1:=by simp
   have B:=World.ownsRow.form F.own ot;rw[X]at B;obtain⟨g,cap,rfl,_,_⟩:=B;have C:wr.ownsRow w0.heap.size 95 2 (.o g (vs'.length+1) cap) (vs'.length+1) (bX (vs'++[wC Z x.length c3 a4 y.length c4])):=by have ho:=F.own;unfold zI at ho;rw[X]at ho;exact ho
   have ah:=QX C;have bf:vs'.length<=cap:=od
   have bh:¬cap=0:=od
   have⟨bq,ca⟩:=zk C;have I:=(F.pop rfl rfl).alloc (.cells #[.slice Z x.length c3,.slice a4 y.length c4] 95);have bc:vs'.length+1<=50000001:=by
    have O:j.length+1=vs'.length+1:=by have:=d.1;simpa using this
    have H:=NF (j++[(x,y)]);rw[qT,qa1]at H;omega
   have S:iD j+(tysizes x+1)=μ wr:=by rw[<-hn,oI,BA]
   have hE:Calls prog 38 #[.slice Z x.length c3,.slice a4 y.length c4,.func (.func 59) #[] #[.po (w0.heap.size+1+1+1+1+1)]]
    ((wr.setCell ⟨w0.heap.size+1+1+1+1+1,0,none⟩ (.o g vs'.length cap)).alloc (.cells #[.slice Z x.length c3,.slice a4 y.length c4] 95)) λe w'=>(e =.returned (.bool true)/\∃m,m<μ wr/\Tz w0 L #[.i T.t,.slice a T.args.length c] #[.i U.t,.slice M U.args.length N] T U m w') \/
      (e =.returned (.bool false)/\sameT T U=false/\cm w0 w' none):=by
    by_cases D:x.length=y.length
    .rw[<-D]at I|-;refine (Dq 59 _ x.length Z a4 c3 c4 V3 V4 (sameAt x y) (λi w=>∃E k,tO w0 w (w0.heap.size+1+1+1+1+1) (w0.heap.size+1+1) (w0.heap.size+1+1+1) #[.i T.t,.slice a T.args.length c] #[.i U.t,.slice M U.args.length N] E k /\
      lF (λb=>b<w0.heap.size\/b=w0.heap.size+1+1\/b=w0.heap.size+1+1+1) L (j++((x.zip y).map mX).take i) k) (λw=>cm w0 w none) z.1 ent_same1 ?_ ?_ ?_ ?_ _ ⟨_,vs',I,by simpa using p⟩).mono ?_
     .rintro i w J ⟨E,k,l,_⟩;exact ((z.2.1 i J).same (aa.same l)).ae (λ_ _ _=>trivial)
     .rintro i w J ⟨E,k,l,_⟩;exact ((q.2.1 i od).same (aa.same l)).ae (λ_ _ _=>trivial)
     .rintro i w o ⟨E,k,l,P⟩;exact⟨E,k,l.alloc o,P⟩
     .rintro i w J ⟨E,k,l,P⟩;have A:i<y.length:=by omega
      have⟨ax,cx,Vx,ba,_,aC⟩:=(z.2.2 i J).inv;have⟨ay,cy,Vy,bb,_,aO⟩:=(q.2.2 i A).inv;have aj:k.length<=100000000:=by
       have h5:=P.1;have h6:(((x.zip y).map mX).take i).length<=x.length:=oB
       have h7:=pW x;have h8:=p.1;rw[qT]at h5;omega
      rw[ba,bb];refine (NJ l aj).mono ?_;rintro e w' ⟨rfl,v',ab⟩;rw[zw J A];refine⟨rfl,λ_=>⟨v',_,ab,?_⟩,λ_=>ab.grown⟩;rw[C8 x y i J A,<-ur];exact P.snoc ⟨ax,cx,Vx,ay,cy,Vy,rfl,aC,aO⟩
     .rintro e w' (⟨rfl,⟨E,k,l,P⟩,G⟩|⟨i,J,G,rfl,hg⟩)
      .rw[qc0 oB]at P;have h7:=zip_left x y;refine .inl ⟨rfl,iD (j++(x.zip y).map mX),?_,E,k,_,l,P,rfl,?_,?_⟩
       .rw[oI];omega
       .rw[oI];omega
       .rw[<-f,qe6,qe6,<-sameTs_zip x y D (VG D G)];simp[sJ]
      .refine .inr ⟨rfl,?_,hg⟩;have A:i<y.length:=by omega
       rw[zw J A]at G;rw[<-f,qe6];simp[sJ,Oq x y i J A (by simpa using G)]
    .refine (Dr _ _ _ _ _ _ _ D z.1 q.1 _).mono ?_;rintro e w' ⟨rfl,rfl⟩;refine .inr ⟨rfl,?_,I.grown⟩;have : sameTs x y=false:=by
      cases h:sameTs x y with
      | false=>rfl
      | true=>exact absurd (sameTs_len h) D
     rw[<-f,qe6];simp[sJ,this]
   have HE:=jh hE;have cb:(vs'.length:Int)<=4611686018427387904:=od
   clear hE I F d p z q hn ai f Y X S hz bc hv ah C;unfold wC at *;go_wp2_with fail;refine HE.mono ?_;rintro e w2 (⟨rfl,hm⟩|⟨rfl,aq,hg⟩)
   .have au:=jh hm;clear hm;go_wp2_with fail;have⟨m,O,H⟩:=au.out;go_roundw
    case rel=>exact⟨m,H⟩
    case measure=>exact je6 (HM _ m H).2 O
   .have HN:=jh aq;have HG:=jh hg;clear aq hg;go_wp2;go_ret;exact⟨by rw[HN.out];rfl,HG⟩
def gP (a b:Int):Int:=if a<b then -1 else if b<a then 1 else 0
def Jn (s t:bo):Int:=if Op.bytesLess s.toList t.toList then -1 else if s.toList=t.toList then 0 else 1
mutual
def qg (c:Va->Va->Int):Va->Va->Int
 | .mk k n a s args ty co,y=>if c (.mk k n a s args ty co) y≠0 then c (.mk k n a s args ty co) y else eO c args y.args
def eO (c:Va->Va->Int):an->an->Int
 | [],[]=>0
 | [],_::_=>-1
 | _::_,[]=>1
 | x::xs,y::ys=>if qg c x y≠0 then qg c x y else eO c xs ys
end
def FB(c:Va->Va->Int)(x y:Va):qg c x y=if c x y≠0 then c x y else eO c x.args y.args:=by
 cases x;rw[qg];rfl
def Eg(c:Va->Va->Int)(x y:Va):eO c [x] [y]=qg c x y:=by
 rw[eO,eO]
 by_cases h:qg c x y=0
 .rw[if_neg (by simpa using h),h]
 .rw[if_pos h]
def XN (c:Va->Va->Int):List (an×an)->Int
 | []=>0
 | r::R=>if eO c r.1 r.2≠0 then eO c r.1 r.2 else XN c R
def jL (c:Va->Va->Int) (rows:List (an×an)):Int:=XN c rows.reverse
def o9(c:Va->Va->Int)(rows:List (an×an))(r:an×an):jL c (rows++[r])=if eO c r.1 r.2≠0 then eO c r.1 r.2 else jL c rows:=by simp[jL,XN]
def Vl(c:Va->Va->Int)(r:an×an):jL c [r]=eO c r.1 r.2:=by
 have:=o9 c [] r;rw[qe5]at this;rw[this]
 by_cases h:eO c r.1 r.2=0
 .rw[if_neg (by simpa using h),h];rfl
 .rw[if_pos h]
def Vm(c:Va->Va->Int)(rows:List (an×an)):jL c (rows++[([],[])])=jL c rows:=by rw[o9];simp[eO]
def Vh(c:Va->Va->Int)(rows:List (an×an))(x y:an)(h:x=[]\/y=[])(f:¬(x=[]/\y=[])):jL c (rows++[(x,y)])=gP x.length y.length:=by
 rw[o9]
 cases x with
 | nil=>cases y with
  | nil=>simp at f
  | cons b y =>
   have d:eO c [] (b::y) = -1:=by rw[eO]
   have e:gP (([]:an).length:Nat) ((b::y).length:Nat) = -1:=by rw[gP,if_pos ot]
   rw[e];simp[d]
 | cons a x=>cases y with
  | nil =>
   have d:eO c (a::x) []=1:=by rw[eO]
   have e:gP ((a::x).length:Nat) (([]:an).length:Nat)=1:=by rw[gP,if_neg oB,if_pos ot]
   rw[e];simp[d]
  | cons b y=>simp at h
def Vn(c:Va->Va->Int)(rows:List (an×an))(x y:Va)(xs ys:an)(h:c x y≠0):jL c (rows++[(x::xs,y::ys)])=c x y:=by
 have a:qg c x y=c x y:=by rw[FB,if_pos h]
 have b:eO c (x::xs) (y::ys)=c x y:=by rw[eO,a,if_pos h]
 rw[o9];simp only[b];rw[if_pos h]
def RZ(c:Va->Va->Int)(rows:List (an×an))(x y:Va)(xs ys:an)(h:c x y=0):jL c (rows++[(x::xs,y::ys)])=jL c (rows++[(xs,ys)]++[(x.args,y.args)]):=by
 have b:qg c x y=eO c x.args y.args:=by rw[FB,if_neg (by simpa using h)]
 rw[o9,o9,o9];simp only;rw[eO,b]
 by_cases a:eO c x.args y.args=0
 .simp[a]
 .rw[if_pos a,if_pos a];simp[a]
def leftV (rows:List (an×an)):Nat:=(rows.map λr=>2*vsizes r.1+1).sum
def iQ(a b:List (an×an)):leftV (a++b)=leftV a+leftV b:=by simp[leftV]
def jW(r:an×an):leftV [r]=2*vsizes r.1+1:=by simp[leftV]
def NI(rows:List (an×an)):rows.length<=leftV rows:=by
 induction rows with
 | nil=>simp
 | cons r l a=>simp only[leftV,qc3,ka7,jt]at a|-;omega
def nQ (x y:Va):Int:=if gP x.n y.n≠0 then gP x.n y.n else Jn x.s y.s
def gT (x y:Va):Int:=qg nQ x y
def zeroVa:Va:=.mk 0 0 0 ⟨#[]⟩ [] [] []
def fU (v:Va):Va:=match v.args with
 | []=>zeroVa
 | x::_=>x
def risesF:an->Bool
 | []=>true
 | [_]=>true
 | x::y::l=>decide (gT (fU x) (fU y)<0)&&risesF (y::l)
def Cb(l:an):risesF l ↔ ∀i (h:i+1<l.length),gT (fU l[i]) (fU l[i+1])<0:=by
 induction l with
 | nil=>simp[risesF]
 | cons x l d=>cases l with
  | nil=>simp[risesF]
  | cons y l =>
   simp only[risesF,qu,kj,d];constructor
   .rintro⟨b,c⟩ i a
    cases i with
    | zero=>exact b
    | succ i=>exact c i (by simpa using a)
   .intro h;exact⟨h 0 ot,λi a=>h (i+1) (by simpa using a)⟩
def Oh(l:an)(i:Nat)(h:i+1<l.length)(hn:¬gT (fU l[i]) (fU l[i+1])<0):risesF l=false:=by
 cases a:risesF l with
 | false=>rfl
 | true=>exact absurd ((Cb l).1 a i h) hn
def kE (n:Int):Bool:=decide (-1152921504606846976<=n/\n<=1152921504606846976)
def gN (n:Int):Bool:=decide (0<=n/\n<=1152921504606846976)
def lY (n:Int):Bool:=decide (0<=n/\n<12)
def bQ (t n:Int):Bool :=
 if t=2\/t=12 then decide (n=0\/n=1)else if t=3 then kE n else if t=4\/t=5\/t=8 then gN n
 else if t=15 then gN n&&decide (n≠0)else if t=7 then lY n else decide (n=0)
def oneGood:ao->Bool
 | []=>false
 | [u]=>bn u
 | _::_::_=>false
def J3{l:ao}(h:l.length≠1):oneGood l=false:=by
 match l,h with
 | [],_=>rfl
 | [_],h=>simp at h
 | _::_::_,_=>rfl
def eZ (T:Ty) (types:ao):Bool :=
 if T.t=8 then oneGood types else if T.t=14 then sameTs types T.args else decide (types.length=0)
def eX (T:Ty) (v:Va):Bool :=
 decide (v.k=T.t)&&bQ T.t v.n&&(decide (v.a=0)||decide (T.t=8\/T.t=15)&&lY v.a)&&(decide (v.s.size=0)||decide (T.t=6)&&decide (v.s.size<=200)) &&
 eZ T v.types&&(decide (v.code.length=0)||decide (T.t=14))
def bB (l:ao) (i:Nat):Ty:=(l[i]?).getD (.nd 0 [])
def bS (T:Ty) (v:Va):Option ao :=
 let l:=v.args.length
 if T.t=8 then (if l=v.types.length then some v.types else none)
 else if T.t=9/\l=0 then some []
 else if T.t=10 then (if l<=24 then some (List.replicate l (bB T.args 0))else none)
 else if T.t=13 then (if l<=24 then some (List.replicate l (.nd 11 T.args))else none)
 else if T.t=12 then (if l=1 then some [bB T.args v.n.toNat]else none)
 else if T.t=14 then (if l=0 then some []else none)
 else if l=T.args.length then some T.args else none
mutual
def hasV:Va->Ty->Bool
 | .mk k n a s args types code,T=>eX T (.mk k n a s args types code)&&(match bS T (.mk k n a s args types code)with
  | none=>false
  | some ts=>hasVs args ts)&&(!decide (T.t=13)||risesF args)
def hasVs:an->ao->Bool
 | [],[]=>true
 | v::vs,T::ts=>hasV v T&&hasVs vs ts
 | [],_::_=>false
 | _::_,[]=>false
end
def pY (T:Ty) (v:Va):Bool:=bn T&&hasV v T
def Bn (p:Ty×Va):Bool:=hasV p.2 p.1
def partsOf (T:Ty) (v:Va):Option (List (Ty×Va)):=(bS T v).map λts=>ts.zip v.args
def hasVs_zip:∀(vs:an) (ts:ao),vs.length=ts.length->hasVs vs ts=(ts.zip vs).all Bn
 | [],[],_=>by simp[hasVs]
 | _::_,[],h=>by simp at h
 | [],_::_,h=>by simp at h
 | v::vs,T::ts,h=>by have a:=hasVs_zip vs ts (by simpa using h);simp[hasVs,a,Bn]
def rE{v:Va}(h:bS T v=some ts):v.args.length=ts.length:=by
 unfold bS at h;simp only at h
 repeat' split at h
 all_goals first|(simp at h;done)|(simp only[qk]at h;subst h;simp_all)
def Lu(T:Ty)(v:Va):hasV v T=(eX T v&&(match partsOf T v with
 | none=>false
 | some ps=>ps.all Bn)&&(!decide (T.t=13)||risesF v.args)):=by
 cases v with
 | mk k n a s args b c =>
  rw[hasV,partsOf]
  cases h:bS T (.mk k n a s args b c)with
  | none=>rfl
  | some ts =>
   have:=rE h;simp only[qh0];rw[hasVs_zip args ts this];rfl
def yg (p:Ty×Va):Nat:=p.2.size
def j6 (C:List (Ty×Va)):Nat:=(C.map yg).sum
def lN(a b:List (Ty×Va)):j6 (a++b)=j6 a+j6 b:=by simp[j6]
def DK(p:Ty×Va):j6 [p]=p.2.size:=by simp[j6,yg]
def NH(C:List (Ty×Va)):C.length<=j6 C:=by
 induction C with
 | nil=>simp
 | cons r l a=>have:=qZ r.2;simp only[j6,qc3,ka7,jt,yg]at a|-;omega
def leftP_zip:∀(ts:ao) (vs:an),ts.length=vs.length->j6 (ts.zip vs)=vsizes vs
 | [],[],_=>by simp[j6,vsizes]
 | _::_,[],h=>by simp at h
 | [],_::_,h=>by simp at h
 | T::ts,v::vs,h=>by
  have a:=leftP_zip ts vs (by simpa using h);have e:j6 ((T::ts).zip (v::vs))=v.size+j6 (ts.zip vs):=by simp[j6,yg]
  rw[e,a,vsizes]
def Lb (p:Int):Prop:=p = -1\/p=0\/p=1
def EG (p q r:Int):Prop:=p<=0->q<=0->r<=0/\(r=0 ↔ p=0/\q=0)
def tu (p q:Int):Int:=if p≠0 then p else q
def uA(a:Lb p)(b:Lb q):Lb (tu p q):=by unfold tu;split<;>assumption
def uz: -tu p q=tu (-p) (-q):=by
 unfold tu
 by_cases h:p=0
 .simp[h]
 .rw[if_pos h,oc]
def xP{d p2 e g f h:Int}(i:EG d e f)(j:EG p2 g h):EG (tu d p2) (tu e g) (tu f h):=by
 unfold EG tu at *;intro k l
 by_cases a:d=0<;>by_cases b:e=0<;>by_cases c:f=0<;>simp[a,b,c]at k l i j|- <;> omega
def Gl(a b:Int):Lb (gP a b):=by unfold Lb gP;split<;>(try split)<;>simp
def Gi(a b:Int):gP b a = -gP a b:=by unfold gP;split<;>split<;>(try split)<;>omega
def Gj(a b c:Int):EG (gP a b) (gP b c) (gP a c):=by unfold EG gP;split<;>split<;>split<;>(try split)<;>(try split)<;>(try split)<;>omega
def cmpL:bw->bw->Int
 | [],[]=>0
 | [],_::_=>-1
 | _::_,[]=>1
 | a::x,b::y=>tu (gP a.toNat b.toNat) (cmpL x y)
def cmpL_sgn:∀x y,Lb (cmpL x y)
 | [],[]=>.inr (.inl rfl)
 | [],_::_=>.inl rfl
 | _::_,[]=>.inr (.inr rfl)
 | a::x,b::y=>uA (Gl _ _) (cmpL_sgn x y)
def cmpL_neg:∀x y,cmpL y x = -cmpL x y
 | [],[]=>rfl
 | [],_::_=>rfl
 | _::_,[]=>rfl
 | a::x,b::y=>by rw[cmpL,cmpL,uz,Gi,cmpL_neg x y]
def cmpL_on3:∀x y z,EG (cmpL x y) (cmpL y z) (cmpL x z)
 | [],[],[]=>by simp[EG,cmpL]
 | [],[],_::_=>by simp[EG,cmpL]
 | [],_::_,[]=>by simp[EG,cmpL]
 | [],_::_,_::_=>by simp[EG,cmpL]
 | _::_,[],_=>by intro h;simp[cmpL]at h
 | _::_,_::_,[]=>by intro _ h;simp[cmpL]at h
 | a::x,b::y,c::z=>xP (Gj _ _ _) (cmpL_on3 x y z)
def cmpL_zero:∀x y,cmpL x y=0 ↔ x=y
 | [],[]=>by simp[cmpL]
 | [],_::_=>by simp[cmpL]
 | _::_,[]=>by simp[cmpL]
 | a::x,b::y=>by
  have f:=cmpL_zero x y;have h:gP a.toNat b.toNat=0 ↔ a=b:=by
   constructor
   .intro h;unfold gP at h;split at h
    .cases h
    .split at h
     .cases h
     .exact UInt8.toNat_inj.1 od
   .rintro rfl;simp[gP]
  simp only[cmpL,tu,xo]
  by_cases d:gP a.toNat b.toNat=0
  .have e:=h.1 d;rw[if_neg (by simpa using d),f];exact⟨λc=>⟨e,c⟩,λc=>c.2⟩
  .simp only[ne_eq,d,not_false_eq_true,if_true,false_iff];intro c;exact d (h.2 c.1)
def less_cmpL:∀x y,Op.bytesLess x y=decide (cmpL x y<0)
 | [],[]=>rfl
 | [],_::_=>by simp[Op.bytesLess,cmpL]
 | _::_,[]=>by simp[Op.bytesLess,cmpL]
 | a::x,b::y=>by
  rw[Op.bytesLess,less_cmpL x y];have c:(a<b)=(a.toNat<b.toNat):=by rw[UInt8.lt_iff_toNat_lt]
  by_cases f:a.toNat<b.toNat
  .have d:gP a.toNat b.toNat = -1:=by rw[gP,oc]
   simp[cmpL,tu,d,c,f]
  .by_cases h:b.toNat<a.toNat
   .have d:gP a.toNat b.toNat=1:=by rw[gP,oa,oc]
    have e:¬a=b:=by rintro rfl;omega
    simp[cmpL,tu,d,c,f,e]
   .have d:gP a.toNat b.toNat=0:=by rw[gP,oa,oa]
    have g:a=b:=UInt8.toNat_inj.1 od;subst g;simp[cmpL,tu,d,c]
def M9(s t:bo):Jn s t=cmpL s.toList t.toList:=by
 unfold Jn;rw[less_cmpL];rcases cmpL_sgn s.toList t.toList with h|h|h
 .rw[h];simp
 .rw[h,if_neg ot,if_pos ((cmpL_zero _ _).1 h)]
 .rw[h,if_neg ot,if_neg (λe=>by rw[(cmpL_zero _ _).2 e]at h;cases h)]
def qN(x y:Va):nQ x y=tu (gP x.n y.n) (cmpL x.s.toList y.s.toList):=by unfold nQ;rw[M9];rfl
def Q8(x y:Va):Lb (nQ x y):=by rw[qN];exact uA (Gl _ _) (cmpL_sgn _ _)
def Q6(x y:Va):nQ y x = -nQ x y:=by rw[qN,qN,uz,Gi,cmpL_neg]
def Q7(x y z:Va):EG (nQ x y) (nQ y z) (nQ x z):=by rw[qN,qN,qN];exact xP (Gj _ _ _) (cmpL_on3 _ _ _)
def RB(c:Va->Va->Int)(x y:Va):qg c x y=tu (c x y) (eO c x.args y.args):=by rw[FB];rfl
def Ck(c:Va->Va->Int)(x y:Va)(xs ys:an):eO c (x::xs) (y::ys)=tu (qg c x y) (eO c xs ys):=by rw[eO];rfl
mutual
def ordV_all:∀(x y z:Va),Lb (qg nQ x y)/\qg nQ y x = -qg nQ x y/\EG (qg nQ x y) (qg nQ y z) (qg nQ x z)
 | .mk k n a s b g f,y,z=>by have⟨c,d,e⟩:=ordVs_all b y.args z.args;simp only[RB];exact⟨uA (Q8 _ _) c,by rw[uz,<-Q6];exact congrArg (tu _) d,xP (Q7 _ _ _) e⟩
def ordVs_all:∀(xs ys zs:an),Lb (eO nQ xs ys)/\eO nQ ys xs = -eO nQ xs ys/\EG (eO nQ xs ys) (eO nQ ys zs) (eO nQ xs zs)
 | [],[],[]=>by simp[Lb,EG,eO]
 | [],[],_::_=>by simp[Lb,EG,eO]
 | [],_::_,[]=>by simp[Lb,EG,eO]
 | [],_::_,_::_=>by simp[Lb,EG,eO]
 | _::_,[],_=>by refine⟨.inr (.inr (by rw[eO])),by rw[eO,eO],λh=>?_⟩;rw[eO]at h;omega
 | x::xs,y::ys,[]=>by have⟨a,b,_⟩:=ordV_all x y y;have⟨c,d,_⟩:=ordVs_all xs ys [];simp only[Ck];refine⟨uA a c,by rw[uz,b,d],λ_ h=>?_⟩;rw[eO]at h;omega
 | x::xs,y::ys,z::zs=>by have⟨a,b,e⟩:=ordV_all x y z;have⟨c,d,f⟩:=ordVs_all xs ys zs;simp only[Ck];exact⟨uA a c,by rw[uz,b,d],xP e f⟩
end
def Hq(x y:Va):Lb (gT x y):=(ordV_all x y y).1
def Q9(x y:Va):gT y x = -gT x y:=(ordV_all x y y).2.1
def Ho(x y z:Va):EG (gT x y) (gT y z) (gT x z):=(ordV_all x y z).2.2
inductive Plain:Va->Prop
 | mk {k n a:Int} {s:ByteArray} {args:List Va} (h:∀x∈args,Plain x):Plain (.mk k n a s args [] [])
def Plain.args{x:Va}(h:Plain x):∀y∈x.args,Plain y:=by cases h with|mk h=>exact h
def jU{d:Nat}(h:j5 d T):(T.args.length:Int)=bT T.t/\∀y∈T.args,j5 (d+1) y:=by have⟨t,args⟩:=T;simp only[j5,qu,kj]at h;refine⟨h.1.2.2,λy a=>?_⟩;have:=h.2;rw[jT,kB]at this;exact this y a
def Bo{x:Va}(c:hasV x T):eX T x/\∃ts,bS T x=some ts/\hasVs x.args ts:=by
 cases x with
 | mk k n a s args types code =>
  rw[hasV]at c;simp only[qu]at c;have⟨⟨e,b⟩,_⟩:=c;refine⟨e,?_⟩
  cases d:bS T (.mk k n a s args types code)with
  | none=>rw[d]at b;cases b
  | some ts=>rw[d]at b;exact⟨ts,rfl,b⟩
