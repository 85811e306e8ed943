import Derived.Test.YtnamdihclpbdfabGreatKtZan
import Derived.Test.YtnamdihclpbdfabGreatKtZam
import Derived.Deep.RegionLaw
import Derived.Laws.OwnMore
import Derived.Lib.SliceRun
import Derived.Lib.Overlaps
import Derived.Laws.Externs
namespace Go.Proofs.YtnamdihclpbdfabGreat
set_option linter.all false
open Go.Proofs.Tryz
open Pe
set_option maxRecDepth 100000
def Yq(l:ao)(key:Va):bZ l key<=l.length:=by unfold bZ;exact (List.takeWhile_prefix _).length_le
def TH{l:ao}{key:Va}(hi:VM l){i:Nat}(h:i<l.length)(c:gT (fU l[i]) key<0):i<bZ l key:=by
 refine qa4 λd=>?_;have b:bZ l key<l.length:=od
 have a:=PU (l:=l) (key:=key) (qt b)
 by_cases e:bZ l key=i
 .subst e;exact a c
 .exact a (sj ((List.pairwise_iff_getElem.1 hi) _ _ b h od) c)
def TI{l:ao}{key:Va}{i:Nat}(h:i<l.length)(a:¬gT (fU l[i]) key<0):bZ l key<=i:=by refine qa4 λb=>a (Em (l:=l) (List.mem_iff_getElem?.2 ⟨i,?_⟩));rw[qe3,oc,qt h]
def Xo{i j m:Nat}(hm:m=(i+j) / 2)(h:i+j<=1000000000):mD (kA .i64 (IntKind.i64.wrap ((IntKind.u64.wrap (IntKind.i64.wrap (Int.ofNat i+Int.ofNat j))).fdiv (2 ^ min (Int.toNat 1) IntKind.u64.bits)))) (jA m):=by rw[show Int.ofNat i+Int.ofNat j=((i+j:Nat):Int) by simp,wNq _ od,IntKind.wrap_u64,show ((i+j:Nat):Int) % 18446744073709551616=((i+j:Nat):Int) by omega,show (2:Int) ^ min (Int.toNat 1) IntKind.u64.bits=2 by decide,Int.fdiv_eq_ediv_of_nonneg _ ov,show (((i+j:Nat):Int) / 2)=((m:Nat):Int) by omega,wNq _ od];rfl
def Fu(x:Va){y:Va}(c:x.size<=20000000):Hd ⟨238,[pF x,pF y],.of (iA (gT (fU x) y))⟩:=by have a:=HZ x;have b:=Tc (x:=fU x) (y:=y) (by have:=Bu x;omega);generalize gT (fU x) y=r at *;generalize fU x=u at *;have⟨m,n,l,q,o,p,k⟩:=x;have⟨v,w,t,B,z,A,s⟩:=y;have⟨f,g,e,j,h,i,d⟩:=u;exact aF func238 [⟨_,a⟩,⟨_,b⟩]
def seQ (l:ao) (y:Va) (i:Nat):St:=[((0,0),.of (qi l)),((0,2),.of (EF 238)),((0,4),.of (.one (.p 4 0))),((5,0),.of (iA y.k)),((5,1),.of (iA y.n)),((5,2),.of (iA y.a)),((5,3),.of (.one (.d (.v (.string y.s))))),((5,4),.of (qi y.args)),((5,5),.of (.one (.d (.s 2 (tysD y.types))))),((5,6),.of (.one (.d (.s 5 (ndsD y.code))))),((0,8),lW (vasD l).length),((0,9),.of (jA i))]
def seS (l:ao) (y:Va) (i j:Nat):St:=((0,10),.of (jA j))::seQ l y i
abbrev seL (l:ao) (y:Va) (i j:Nat) (q:St):Prop:=vO prog f237.ntmps ⟨gF f237,seS l y i j,2,q⟩
def IE{l:ao}{y:Va}(s:vsizes l<=20000000)(hi:VM l):∀n i j,j - i<=n->i<=bZ l y->bZ l y<=j->j<=l.length->seL l y i j (seQ l y (bZ l y))
 | n,i,j,T,L,M,N=>by
  have S:=kS l
  by_cases O:i<j
  .have⟨m,P⟩:∃m,m=(i+j) / 2:=⟨_,rfl⟩;have c:m<l.length:=by omega
   have Q:=qt c;have q:=Fu l[m] (y:=y) (by have:=fO (yv c);omega);have h:=λo=>TH (key:=y) hi c o;have g:=λo=>TI (key:=y) c o;generalize l[m]=x at *;generalize gT (fU x) y=r at *;have f:=is_lt (a:=Int.ofNat i) (b:=Int.ofNat j) ot;have t:=Xo P od;have u:=PT Q;have R:mD (lW (IntKind.i64.wrap (Int.ofNat m+1))) (jA (m+1)):=yY (zF oe ot ot);have⟨z,A,w,D,B,C,v⟩:=x;obtain⟨n,rfl⟩:∃k,n=k+1:=⟨n - 1,od⟩
   by_cases d:r<0
   .have p:=IE s hi n (m+1) j od (h d) M N;have⟨G,H,F,K,I,J,E⟩:=y;exact LG [(17,bA true),(23,jA m),(27,.one (.e (vaD (.mk z A w D B C v)) 0)),(31,bA true),(33,jA (m+1))] [⟨_,q⟩] p (al f (al t (al u (al (is_lt d) (al R al0)))))
   .have p:=IE s hi n i m od L (g d) od;have⟨G,H,F,K,I,J,E⟩:=y;exact LG [(17,bA true),(23,jA m),(27,.one (.e (vaD (.mk z A w D B C v)) 0)),(31,bA false)] [⟨_,q⟩] p (al f (al t (al u (al (wH d) al0))))
  .obtain rfl:i=bZ l y:=by omega
   have f:=wH (a:=Int.ofNat (bZ l y)) (b:=Int.ofNat j) ot;have⟨G,H,F,K,I,J,E⟩:=y;exact xQ (e:=1) [(17,bA false)] [] (al f al0)
def Ro{l:ao}{y:Va}(c:vsizes l<=20000000)(k:risesF l):Hd ⟨237,[qi l,pF y,EF 238],.rz [iA (bZ l y:Nat),bA (fJ l y)]⟩:=by
 have g:=IE (y:=y) c ((rises_inc l).1 k) l.length 0 l.length od (yb _) (Yq l y) (jn _);have H:=Yq l y;have I:=kS l;have i:=wI (S:=seS l y 0 l.length) (q:=gF f237=gF f237) rfl (ps:=[mD (lW (vasD l).length) (jA l.length)]) (al (yY (by rw[qY];rfl)) al0)
 by_cases d:bZ l y<l.length
 .have h:=qt d;have j:=Fu l[bZ l y] (y:=y) (by have:=fO (yv d);omega);have f:=is_lt (a:=Int.ofNat (bZ l y)) (b:=((vasD l).length:Int)) On;have n:=PT h;have e:fJ l y=decide (gT (fU l[bZ l y]) y=0):=by unfold fJ;rw[h]
  rw[e];generalize l[bZ l y]=x at *;generalize gT (fU x) y=r at *;generalize bZ l y=m at *;have⟨s,t,p,w,u,v,o⟩:=x;have⟨C,D,B,G,E,F,A⟩:=y;exact Ce func237 [(14,jA l.length),(38,bA true),(43,.one (.e (vaD (.mk s t p w u v o)) 0))] [_] (by intro z c;rw[qu]at c;subst c;exact g) [⟨_,j⟩] (jX i (al f (al n al0)))
 .have f:=wH (a:=Int.ofNat (bZ l y)) (b:=((vasD l).length:Int)) On;have e:fJ l y=false:=by unfold fJ;rw[List.getElem?_eq_none od]
  rw[e];generalize bZ l y=m at *;have⟨C,D,B,G,E,F,A⟩:=y;exact Ce func237 [(14,jA l.length),(38,bA false)] [_] (by intro z c;rw[qu]at c;subst c;exact g) [] (jX i (al f al0))
def FN{l:ao}{y:Va}(c:vsizes l<=20000000)(a:risesF l):Hd ⟨219,[qi l,pF y],.rz [iA (bZ l y:Nat),bA (fJ l y)]⟩:=by have h:=Ro (y:=y) c a;generalize fJ l y=b at *;generalize bZ l y=m at *;have⟨f,g,e,k,i,j,d⟩:=y;exact aF func219 [⟨_,h⟩]
open Go.ChangeShapes Go.WideShapes Go.ChangeAt Go.RowKit
set_option maxHeartbeats 1000000
def uG{ok:br}{B:Nat}{w:cg}{v:cm}{l:ao}{us:bo}(r:dF B w v us)(M:us.length=l.length)(h:∀(i:Nat) (x:Va) (u:cm),l[i]?=some x->us[i]?=some u->aA ok w x u)(t:∀g,v.ownBlock=some g->ok g)(hm:l.length<=maxLen) :
 ∃(a:bj) (c:Nat) (V:bt),v =.slice a l.length c/\l.length<=c/\aT ok w l a V:=by
 have d:∀i (f:i<l.length),∃u,us[i]?=some u/\aA ok w l[i] u:=λi f=>⟨us[i],qt od,h i l[i] us[i] (qt f) (qt od)⟩;have H:∀u∈us,(nodeCells u).length=7:=λu O=>by obtain⟨i,f,rfl⟩:=qc3 O;have⟨u,e,h⟩:=d i od;rw[qt f]at e;simp at e;have⟨k,n,p,s,z,al,ac,E,tl,F,A,D,C,m⟩:=h.bg;rw[e,m];rfl
 unfold dF at r;rcases r.2 with⟨rfl,h0⟩|⟨g,o,G,rfl,I,Q,N,J,K,y⟩
 .have q:l.length=0:=by omega
  exact⟨none,0,λ_=>.i 0,by rw[q],od,od,λi f=>od,λi f=>od⟩
 .refine⟨some ⟨g,0,none⟩,o,λi=>(us[i]?).getD (.i 0),by rw[M],od,hm,λi f=>?_,λi f=>?_⟩
  .have⟨u,e,h⟩:=d i f;have⟨k,n,p,s,z,al,ac,E,tl,F,A,D,C,m⟩:=h.bg;have b:∀j x,j<7->(nodeCells u)[j]?=some x->w.cell? ⟨g,0+i*7+j,none⟩=some x:=by
    intro j x L P;have:=qd4 r (g:=g) rfl (i*7+j) x (by rw[flatV_get us H i j u e L];exact P);rw[gI,<-qg2]at this;exact this
   rw[m]at b;exact⟨g,0,rfl,t g rfl,k,n,p,s,z,al,ac,E,tl,F,A,D,C,by show (us[i]?).getD _=_;rw[e];exact m,b 0 _ od rfl,b 1 _ od rfl,b 2 _ od rfl,b 3 _ od rfl,b 4 _ od rfl,b 5 _ od rfl,b 6 _ od rfl⟩
  .have⟨u,e,h⟩:=d i f;show aA ok w l[i] ((us[i]?).getD _);rw[e];exact h
structure nI (O:br) (W w:cg) (v:cm) (l:ao) (us:bo):Prop where
 own:dF W.heap.size w v us
 len:us.length=l.length
 lies:∀(i:Nat) (x:Va) (u:cm),l[i]?=some x->us[i]?=some u->aA (λb=>¬O b) W x u
def nI.more{O:br}{W w w':cg}{v v':cm}{l l2:ao}{us ns:bo}(h:nI O W w v l us)(g:dF W.heap.size w' v' (us++ns))(f:ns.length=l2.length)(hn:∀(i:Nat) (x:Va) (u:cm),l2[i]?=some x->ns[i]?=some u->aA (λb=>¬O b) W x u):nI O W w' v' (l++l2) (us++ns):=by
 have a:=h.len;refine⟨g,by simp[a,f],λi x u d c=>?_⟩
 by_cases e:i<l.length
 .exact h.lies i x u (by rw[kO e]at d;exact d) (by rw[kO od]at c;exact c)
 .exact hn (i - l.length) x u (by rw[zE od]at d;exact d) (by rw[zE od,a]at c;exact c)
section
variable {ok:br}{w:cg}{x y:Va}
def BK{k:Int}{l:ao}(h:bD k)(a:okVs l):okV (mkV k l):=⟨⟨h,i64,i64,ov⟩,a,trivial,trivial⟩
def oN{k n:Int}(h:bD k)(hn:bD n):okV (aW k n):=⟨⟨h,hn,i64,ov⟩,trivial,trivial,trivial⟩
def si(h:okV x)(k:okV y):okV (aY x y):=BK i64 ⟨h,k,trivial⟩
def pO(h:okV x):okV (aV x):=BK i64 ⟨h,trivial⟩
def ok_none:okV noneV:=BK i64 trivial
def mP(b:Bool):okV (aZ b):=oN i64 (by cases b<;>exact i64)
end
section
variable {x y:Va}
def EA(k:Int)(l:ao):Hd ⟨215,[iA k,qi l],.of (pF (mkV k l))⟩:=Holds.val (i:=7) (j:=0) (q:=0) (al:=l) (ty:=[]) (co:=[]) (aF func215 []) (.inl rfl) (.inr rfl) (.inr rfl)
def EB(k:Int):Hd ⟨215,[iA k,nilA],.of (pF (mkV k []))⟩:=Holds.val (i:=0) (j:=0) (q:=0) (al:=[]) (ty:=[]) (co:=[]) (aF func215 []) (.inr rfl) (.inr rfl) (.inr rfl)
def eU(k n:Int):Hd ⟨216,[iA k,iA n],.of (pF (aW k n))⟩:=Holds.val (i:=0) (j:=0) (q:=0) (al:=[]) (ty:=[]) (co:=[]) (aF func216 []) (.inr rfl) (.inr rfl) (.inr rfl)
def Pq(s:bp):Hd ⟨228,[.one (.d (.v (.string s)))],.of (pF (di s))⟩:=Holds.val (i:=0) (j:=0) (q:=0) (al:=[]) (ty:=[]) (co:=[]) (aF func228 []) (.inr rfl) (.inr rfl) (.inr rfl)
def H_none:Hd ⟨212,[],.of (pF noneV)⟩:=aF func212 [⟨_,EB 9⟩]
def mU(x:Va):Hd ⟨214,[pF x],.of (pF (aV x))⟩:=by have⟨k,n,a,s,r,t,c⟩:=x;exact aF func214 [⟨_,EA 9 [.mk k n a s r t c]⟩]
def pX(x y:Va):Hd ⟨213,[pF x,pF y],.of (pF (aY x y))⟩:=by have⟨k,n,a,s,r,t,c⟩:=x;have⟨e,f,b,h,g,i,d⟩:=y;exact aF func213 [⟨_,EA 11 [.mk k n a s r t c,.mk e f b h g i d]⟩]
def AQ(a n:Int)(x:Va):Hd ⟨247,[iA a,iA n,pF x],.of (pF (aM a n x))⟩:=by have⟨k,n,a,s,r,t,c⟩:=x;exact Holds.val (i:=7) (j:=0) (q:=0) (al:=[.mk k n a s r t c]) (ty:=[]) (co:=[]) (aF func247 []) (.inl rfl) (.inr rfl) (.inr rfl)
def pJ(b:Bool):Hd ⟨227,[bA b],.of (pF (aZ b))⟩:=by
 cases b
 .exact aF func227 [⟨_,eU 2 0⟩]
 .exact aF func227 [⟨_,eU 2 1⟩]
def wX(x:Va):Hd ⟨190,[pF x],aQ (kJ x)⟩:=by have⟨k,n,a,s,r,t,c⟩:=x;exact aF func190 []
def aae(a:okV x)(b:okV y)(c:x.size<=20000000):Hd ⟨40,[pF x,pF y],aQ (Ij x y)⟩:=Te a b c
def OG (r:Int×Int):AV:=.rz [iA r.1,iA r.2]
def EC{f:FuncId}{args:List A1}{r:Int×Int}(a:∀(args:Array cm) (w:cg),(callFunc f args).run prog w =.ok (.enter f args) w)(h:∀ok w vs,dU (gm (λ_=>none) ok w) args vs->Calls prog f vs.toArray w (P2 w r)):Hd ⟨f,args,OG r⟩ :=
 ⟨⟨a,rfl⟩,λok w vs b=>(h ok w vs b).mono (by rintro e c ⟨rfl,rfl⟩;exact⟨bf _ _,_,rfl,_,rfl,fI.v _,fI.v _,trivial⟩)⟩
def yD{ok:br}{w:cg}{vs:bo}{a b:Int}(h:dU (gm (λ_=>none) ok w) [iA a,iA b] vs):vs=[.i a,.i b]:=by
 match vs,h with
 | [u,v],⟨c,d,_⟩=>rw[bW c,bW d]
def VI(a b:Int):Hd ⟨113,[iA a,iA b],OG (addN a b)⟩:=EC (bK func113) λok w c h=>by rw[yD h];exact Lc a b w
def X8(a b:Int):Hd ⟨241,[iA a,iA b],OG (Iu a b)⟩:=EC (bK func241) λok w c h=>by rw[yD h];exact Vo a b w
def X6(a b:Int)(c:kE a)(hb:kE b):Hd ⟨242,[iA a,iA b],OG (mulN a b)⟩:=EC (bK func242) λok w d h=>by rw[yD h];exact Ur a b w c hb
def X3(a:Int):Hd ⟨222,[iA a],OG (EJ a)⟩:=EC (bK func222) λok w c h=>by
 match c,h with
 | [u],⟨b,_⟩=>rw[bW b];exact TA a w
def Pd(a b:Int)(f:kE a)(hb:kE b):Hd ⟨240,[iA a,iA b],.rz [iA (if b=0 then 0 else a / b),iA (if b=0 then 0 else a % b),iA (if b=0 then 6 else 0)]⟩:=⟨tF func240,λok w i h=>by
 rw[yD h];refine (Qi a b w f hb).mono ?_;rintro e j ⟨q,r,g,rfl,c,d,n,rfl⟩;refine⟨iW (bf _ _) ,_,rfl,_,rfl,?_⟩
 by_cases e:b=0
 .obtain⟨rfl,rfl,rfl⟩:=c e;simp only[if_pos e];exact⟨fI.v _,fI.v _,fI.v _,trivial⟩
 .obtain⟨rfl,rfl,rfl⟩:=d e;simp only[if_neg e];exact⟨fI.v _,fI.v _,fI.v _,trivial⟩⟩
def Pj{t:Tr}(b:okN t)(a:fu t):Hd ⟨115,[ndA t],.rz [tyA (kreadT t),iA 0]⟩:=U2 b a
def tK{t:Tr}(b:okN t)(a:fu t):Hd ⟨221,[ndA t],.of (tyA (kreadT t))⟩:=by have:=Pj b a;generalize kreadT t=T at this|-;have⟨k,c⟩:=T;have⟨e,f,g,h,d⟩:=t;exact aF func221 [⟨_,this⟩]
def Pv{T:Ty}{t:Tr}(a:okT T)(b:okN t)(c:t.size<=4611686018427387903)(h:jf T t=some x):Hd ⟨111,[tyA T,ndA t],.rz [pF x,iA 0]⟩:=by have:=aed a b c;rw[h]at this;exact this
end
def fitsAll:aw->ao->Bool
 | T::s,x::l=>qC T x&&fitsAll s l
 | _,_=>true
def Yw (s:aw) (l:ao) (j:Nat):St:=[((0,1),.of (dZ s)),((0,24),.of (qi l)),((0,25),lW (vasD l).length),((0,26),.of (jA j))]
def Zv (b:Bool):Nat:=if b then 2 else 1
def Zw (b:Bool):St:=if b then []else [((0,6),aQ false)]
def JQ{s:aw}{l:ao}(A:okTs s)(y:okVs l)(r:s.length=l.length)(E:l.length<=100000)(B:∀x∈l,x.size<=6000000) :
 ∀(k j:Nat),j+k=l.length->vO prog f126.ntmps ⟨gF f126,Yw s l j,Zv (fitsAll (s.drop j) (l.drop j)),Zw (fitsAll (s.drop j) (l.drop j))⟩:=λk=>by
 induction k with
 | zero =>
  intro j w;have f:=wH (a:=Int.ofNat j) (b:=((vasD l).length:Int)) On;have v:fitsAll (s.drop j) (l.drop j):=by rw[qb7 (by omega:l.length<=j)];cases s.drop j<;>rfl
  rw[v];exact xQ (e:=1) [(27,bA false)] [] (al f al0)
 | succ k D =>
  intro j w;have d:j<l.length:=od
  have c:j<s.length:=od
  have f:=is_lt (a:=Int.ofNat j) (b:=((vasD l).length:Int)) On;have u:=PT (qt d);have C:mD (lW (IntKind.i64.wrap (Int.ofNat j+1))) (jA (j+1)):=yY (zF oe ot ot);have hF:=VJ (okTs_at.1 A _ (yv c)) (okVs_at.1 y _ (yv d)) (B _ (yv d));have z:=D (j+1) od;rw[kB d,kB c];have g:∀t a,s[j] =.nd t a->OQ s j t a:=λt a e=>EK (by rw[qt c,e]);simp only[fitsAll];generalize l[j]=x at *;generalize s[j]=T at *;generalize qC T x=b at *;have⟨t,a⟩:=T;have g:=g t a rfl;have⟨m,n,i,q,o,p,h⟩:=x
  cases b with
  | false =>
   rw[qf3];exact xQ (e:=0) [(27,bA true),(29,.one (.e (vaD (.mk m n i q o p h)) 0)),(33,.one (.e (tyD (.nd t a)) 0))] [⟨_,hF⟩] (al f (al u (al g al0)))
  | true =>
   rw[qa3];exact LG [(27,bA true),(29,.one (.e (vaD (.mk m n i q o p h)) 0)),(33,.one (.e (tyD (.nd t a)) 0)),(38,jA (j+1))] [⟨_,hF⟩] z (al f (al u (al g (al C al0))))
def rW (n:Tr) (s:aw) (l:ao):Bool:=(match codeF n s with
 | .no _=>false
 | .ok _ _=>true)&&decide (l.length=s.length)&&fitsAll s l
def Gm{n:Tr}{s x:aw}{f:Bool}(h:codeF n s =.ok f x):s.length<=40:=by
 unfold codeF at h;split at h
 .cases h
 split at h
 .cases h
 split at h
 .cases h
 omega
theorem Pn{n:Tr}{s:aw}{l:ao}(hn:okN n)(hz0:n.size<=4611686018427387904)(hs:okTs s)(hl:okVs l)(hz:∀x∈l,x.size<=6000000)(hE:∀e,codeF n s =.no e->e≠0):Hd ⟨126,[ndA n,dZ s,qi l],aQ (rW n s l)⟩:=by
 have hC:=IY hn hz0 hs;unfold rW;have⟨nk,nn,np,nz,na⟩:=n
 cases hc:codeF (.nd nk nn np nz na) s with
 | no e =>
  rw[hc]at hC;have he:=hE e hc;simp only[qf3];exact runT func126 [(18,bA true)] [⟨_,hC⟩] (ob:=[jJ (!decide (e=0)) true]) (al (eT (by simp[he])) al0)
 | ok f ts =>
  rw[hc]at hC;simp only[qa3]
  by_cases hlen:l.length=s.length
  .have hL:=JQ hs hl hlen.symm (by have:=Gm hc;omega) hz l.length 0 (by omega);rw[qg1,qg1]at hL;rw[show decide (l.length=s.length) by simpa using hlen,qa3];generalize fitsAll s l=b at *;have i1:jJ (!decide (((vasD l).length:Int)=((tysD s).length:Int))) false:=eT (by rw[qY,eY];simp[hlen])
   cases b with
   | true=>exact Ce func126 [(23,bA false)] [⟨gF f126,Yw s l 0,2,[]⟩] (by intro x hx;rw[qu]at hx;subst hx;exact hL) [⟨_,hC⟩] (ob:=[jJ (!decide (((vasD l).length:Int)=((tysD s).length:Int))) false]++((gF f126=gF f126)::(Yw s l 0).map (λx=>some x.2=some x.2))) (wI rfl (al i1 al0))
   | false=>exact Ce func126 [(23,bA false)] [⟨gF f126,Yw s l 0,1,[((0,6),aQ false)]⟩] (by intro x hx;rw[qu]at hx;subst hx;exact hL) [⟨_,hC⟩] (ob:=[jJ (!decide (((vasD l).length:Int)=((tysD s).length:Int))) false]++((gF f126=gF f126)::(Yw s l 0).map (λx=>some x.2=some x.2))) (wI rfl (al i1 al0))
  .rw[show decide (l.length=s.length)=false by simpa using hlen,qf3];have i1:jJ (!decide (((vasD l).length:Int)=((tysD s).length:Int))) true:=eT (by rw[qY,eY];simp;omega);exact runT func126 [(23,bA true)] [⟨_,hC⟩] (ob:=[jJ (!decide (((vasD l).length:Int)=((tysD s).length:Int))) true]) (al i1 al0)
set_option maxHeartbeats 4000000
def zL (n:Int):Bool:=decide (0<=n)&&decide (n<12)
def Gb (n:Int):Bool:=decide (0<=n)&&kE n
def Ah (en:En):Bool:=zL en.self&&zL en.sender&&Gb en.amount&&Gb en.balance
def vZ(n:Int)(w:cg):Calls prog 147 #[.i n] w λe w'=>e =.returned (.bool (zL n))/\w'=w:=by
 unfold zL
 by_cases h:0<=n
 .have a:decide (0<=n):=by simpa using h
  go_enter func147,ntmps147;go_wp2;go_ret;exact⟨by rw[a];rfl,rfl⟩
 .have a:decide (0<=n)=false:=by simpa using h
  have b:n<0:=od
  rw[a];go_enter func147,ntmps147;go_wp2;go_ret;exact⟨rfl,rfl⟩
def xO(n:Int)(w:cg):Calls prog 148 #[.i n] w λe w'=>e =.returned (.bool (Gb n))/\w'=w:=by
 unfold Gb;have b:=jh (jI n)
 by_cases h:0<=n
 .have a:decide (0<=n):=by simpa using h
  go_enter func148,ntmps148;go_wp2_with ((go_at_call 68;(with_reducible refine (b.out _).mono ?_);rintro e w' ⟨rfl,rfl⟩));go_ret;exact⟨by rw[a];rfl,rfl⟩
 .have a:decide (0<=n)=false:=by simpa using h
  have c:n<0:=od
  rw[a];go_enter func148,ntmps148;go_wp2;go_ret;exact⟨rfl,rfl⟩
def DD(en:En)(w:cg):Calls prog 125 #[.agg #[.i en.self,.i en.sender,.i en.amount,.i en.balance]] w λe w'=>e =.returned (.bool (Ah en))/\cq w w' none:=by
 unfold Ah;have⟨a,b,c,d⟩:=we (vZ en.self) (vZ en.sender) (xO en.amount) (xO en.balance);generalize zL en.self=f at a|-;generalize zL en.sender=g at b|-;generalize Gb en.amount=h at c|-;generalize Gb en.balance=j at d|-;cases f<;>cases g<;>cases h<;>cases j
 all_goals
  go_enter func125,ntmps125;go_wp2_with (first
   | (go_at_call 147;(with_reducible refine (a.out _).mono ?_);rintro e w' ⟨rfl,rfl⟩)
   | (go_at_call 147;(with_reducible refine (b.out _).mono ?_);rintro e w' ⟨rfl,rfl⟩)
   | (go_at_call 148;(with_reducible refine (c.out _).mono ?_);rintro e w' ⟨rfl,rfl⟩)
   | (go_at_call 148;(with_reducible refine (d.out _).mono ?_);rintro e w' ⟨rfl,rfl⟩))
  go_ret;exact⟨by first|rfl|simp,aK _⟩
noncomputable def Xf (en:En) (aC:Int) (m:Ma):Out:=open Classical in if h:∃N,fq en aC N m ≠ .stuck then fq en aC (Classical.choose h) m else .stuck
def xA{en:En}{aC:Int}{m:Ma}{N:Nat}(h:fq en aC N m ≠ .stuck):Xf en aC m=fq en aC N m:=by
 have b:∃N,fq en aC N m ≠ .stuck:=⟨N,h⟩;unfold Xf;rw[dif_pos b];have c:=Classical.choose_spec b;rcases Nat.le_total (Classical.choose b) N with a|a
 .exact (Ew _ _ c a).symm
 .exact Ew _ _ h a
structure Rs where
 code:Int
 stack:ao
 said:Va
 aC:Int
 aO:Int
def rsO:Out->Rs
 | .go m=>⟨0,m.st,zeroVa,m.paid,m.aO⟩
 | .no e m=>⟨e,[],if e=10 then m.said else zeroVa,m.paid,0⟩
 | .stuck=>⟨14,[],zeroVa,0,0⟩
noncomputable def Fy (en:En) (n:Tr) (s:aw) (l:ao) (aC:Int):Rs:=if Ah en/\rW n s l then rsO (Xf en aC (jO l n.args0))else rsO .stuck
def ad7{en:En}(h:Ah en):yH en:=by simp only[Ah,zL,Gb,kE,qv,jt]at h;simp only[yH,lY,gN,jt];omega
def fitsAll_iff:∀{s:aw}{l:ao},s.length=l.length->(fitsAll s l ↔ FitS s l)
 | [],[],_=>by simp[fitsAll,FitS]
 | T::s,x::l,h=>by simp only[fitsAll,FitS,Fit,qv];rw[fitsAll_iff (by simpa using h)]
 | [],_::_,h=>by simp at h
 | _::_,[],h=>by simp at h
def zb{n:Tr}{s:aw}{l:ao} : rW n s l ↔ (∃f x,codeF n s =.ok f x)/\FitS s l:=by
 unfold rW
 cases c:codeF n s with
 | no e=>simp
 | ok f x =>
  simp only[qa3,qv,jt];constructor
  .rintro⟨a,b⟩;exact⟨⟨f,x,rfl⟩,(fitsAll_iff a.symm).1 b⟩
  .rintro⟨_,h⟩;exact⟨(fitS_len h).symm,(fitsAll_iff (fitS_len h)).2 h⟩
def Cg[Nr]{en:En}{n:Tr}{s x z:aw}{l:ao}{f:Bool}{aC:Int}(a:yH en)(hc:codeF n s =.ok f x)(e:f=false->z=x)(b:z.length<=342)(c:FitS s l)(d:Sq l):∃N,Done aC z (fq en aC N (jO l n.args0)) :=
 VE a b _ _ (Nat.lt_succ_self _) (Gg hc e c d)
def uW[Nr]{aC:Int}{z:aw}{o:Out}(h:Done aC z o):o ≠ .stuck:=λe=>by rw[e]at h;exact h
structure Fn (m:Ma):Prop where
 ok:okVs m.st
 st:m.st.length<=50000000
 fr:m.fr.length<=50000000
section
variable {c:Mc}{m:Ma}{p:Int}{ps:Nat->Ma->Prop}
def GZ{a:Va}{s:ao}(h:(sm m (a::s)).st.length<=50000000):s.length<=50000000:=by simp at h;omega
def OU{a b:Va}{s:ao}(h:(sm m (a::b::s)).st.length<=50000000):s.length<=50000000:=by simp at h;omega
def Zu{a b d:Va}{s:ao}(h:(sm m (a::b::d::s)).st.length<=50000000):s.length<=50000000:=by simp at h;omega
def pt (m:Ma) (s l:ao) (i:Nat) (hk:okVs l) (hne:bz (sm m s) l ≠ .stuck) (hl:s.length<=50000000) (hi:∀x,ps i x->EM (sm m s) x:=by exact λ_ h=>h) (hj:∀x,oP (bz (sm m s) l) x->ps (i+1) x:=by exact λ_ h=>h):{ s:Sp // @Holds (c.res ps) prog s }:=pu (IX (m:=sm m s) (l:=l) 7 hk (.inl rfl) hne hl) i hi hj
def YV (m:Ma) (s:ao) (k n a:Int) (z:bp) (x y q:Nat) (args:ao) (types:aw) (code:aE) (i:Nat) (hk:okV (.mk k n a z args types code)) (h1:x=7\/args=[]) (h2:y=2\/types=[]) (h3:q=5\/code=[]) (hne:bz (sm m s) [.mk k n a z args types code] ≠ .stuck) (hl:s.length<=50000000) (hi:∀x,ps i x->EM (sm m s) x:=by exact λ_ h=>h) (hj:∀x,oP (bz (sm m s) [.mk k n a z args types code]) x->ps (i+1) x:=by exact λ_ h=>h):{ s:Sp // @Holds (c.res ps) prog s }:=pu (SE (m:=sm m s) k n a z x y q args types code hk h1 h2 h3 hne hl) i hi hj
def YB{x y:Va} : bD (gT x y):=by unfold bD;rcases Hq x y with h|h|h<;>omega
def SI(A:p=46\/p=47\/p=48\/p=49\/p=50\/p=51\/p=53\/p=54)(y:Fn m)(e:l8 p m ≠ .stuck):HO c m 193 [iA p] (l8 p m):=by
 obtain⟨m,s,rfl⟩:∃M s,m=sm M s:=⟨m,m.st,rfl⟩;have⟨x,f,C⟩:=y;rcases A with rfl|rfl|rfl|rfl|rfl|rfl|rfl|rfl
 rotate_right
 .simp only[l8,↓reduceIte]at e|-;exact eH [] func193 [up H_none,pt m s [noneV] 0 ⟨ok_none,trivial⟩ e f]
 all_goals
  rcases s with _|⟨a,s⟩
  .exact absurd rfl e
  have⟨g,B⟩:=x;have⟨k,n,i,z,r,t,d⟩:=a
 .rcases s with _|⟨b,s⟩
  .exact absurd rfl e
  simp only[l8,Int.reduceEq,↓reduceIte]at e|-;exact eH [sm m (b::s),sm m s] func193 [tk m (.mk k n i z r t d) (b::s) 0,tk m b s 1,up (pX (.mk k n i z r t d) b),pt m s [aY (.mk k n i z r t d) b] 2 ⟨si g B.1,trivial⟩ e (OU f)]
 .simp only[l8,Int.reduceEq,↓reduceIte]at e|-;exact eH [sm m s] func193 [tk m (.mk k n i z r t d) s 0,pt m s r 1 g.2.1 e (GZ f)]
 .rcases r with _|⟨⟨l,o,j,w,q,v,h⟩,r⟩
  .exact absurd rfl e
  simp only[l8,Int.reduceEq,↓reduceIte]at e|-;exact eH [sm m s] func193 [tk m (.mk k n i z _ t d) s 0,pt m s [.mk l o j w q v h] 1 ⟨g.2.1.1,trivial⟩ e (GZ f)]
 .rcases r with _|⟨u,_|⟨⟨l,o,j,w,q,v,h⟩,r⟩⟩
  .exact absurd rfl e
  .exact absurd rfl e
  simp only[l8,Int.reduceEq,↓reduceIte]at e|-;exact eH [sm m s] func193 [tk m (.mk k n i z _ t d) s 0,pt m s [.mk l o j w q v h] 1 ⟨g.2.1.2.1,trivial⟩ e (GZ f)]
 .simp only[l8,Int.reduceEq,↓reduceIte]at e|-;exact eH [sm m s] func193 [tk m (.mk k n i z r t d) s 0,YV m s 12 0 0 ⟨#[]⟩ 7 0 0 [.mk k n i z r t d] [] [] 1 ⟨⟨i64,i64,i64,ov⟩,⟨g,trivial⟩,trivial,trivial⟩ (.inl rfl) (.inr rfl) (.inr rfl) e (GZ f)]
 .simp only[l8,Int.reduceEq,↓reduceIte]at e|-;exact eH [sm m s] func193 [tk m (.mk k n i z r t d) s 0,YV m s 12 1 0 ⟨#[]⟩ 7 0 0 [.mk k n i z r t d] [] [] 1 ⟨⟨i64,i64,i64,ov⟩,⟨g,trivial⟩,trivial,trivial⟩ (.inl rfl) (.inr rfl) (.inr rfl) e (GZ f)]
 .simp only[l8,Int.reduceEq,↓reduceIte]at e|-;exact eH [sm m s] func193 [tk m (.mk k n i z r t d) s 0,up (mU (.mk k n i z r t d)),pt m s [aV (.mk k n i z r t d)] 1 ⟨pO g,trivial⟩ e (GZ f)]
def Ww(l:p=73\/p=74\/p=75\/p=76\/p=77\/p=78\/p=79)(v:Fn m)(w:∀x∈m.st,x.size<=20000000)(e:xm p m ≠ .stuck):HO c m 198 [iA p] (xm p m):=by
 obtain⟨m,s,rfl⟩:∃M s,m=sm M s:=⟨m,m.st,rfl⟩;have⟨u,f,A⟩:=v;rcases s with _|⟨a,s⟩
 .rcases l with rfl|rfl|rfl|rfl|rfl|rfl|rfl<;>exact absurd rfl e
 have⟨B,C⟩:=u;have⟨k,n,i,z,r,t,d⟩:=a;rcases l with rfl|rfl|rfl|rfl|rfl|l
 .rcases s with _|⟨b,s⟩
  .exact absurd rfl e
  have o:bD (gT (.mk k n i z r t d) b):=YB;simp only[xm,Int.reduceEq,↓reduceIte]at e|-;exact eH [sm m (b::s),sm m s] func198 [tk m (.mk k n i z r t d) (b::s) 0,tk m b s 1,up (Tc (y:=b) (w _ (.head _))),up (eU 3 (gT (.mk k n i z r t d) b)),pt m s [aW 3 (gT (.mk k n i z r t d) b)] 2 ⟨oN i64 o,trivial⟩ e (OU f)]
 .exact eH [sm m s] func198 [tk m (.mk k n i z r t d) s 0,up (pJ (decide (n=0))),pt m s [aZ (decide (n=0))] 1 ⟨mP _,trivial⟩ e (GZ f)]
 .exact eH [sm m s] func198 [tk m (.mk k n i z r t d) s 0,up (pJ (decide (n<0))),pt m s [aZ (decide (n<0))] 1 ⟨mP _,trivial⟩ e (GZ f)]
 .simp only[xm,Int.reduceEq,↓reduceIte]at e|-;exact eH [sm m s] func198 [tk m (.mk k n i z r t d) s 0,up (pJ (decide (0<n))),pt m s [aZ (decide (0<n))] 1 ⟨mP _,trivial⟩ e (GZ f)]
 .exact eH [sm m s] func198 [tk m (.mk k n i z r t d) s 0,up (wX (.mk k n i z r t d)),up (pJ (!kJ (.mk k n i z r t d))),pt m s [aZ (!kJ (.mk k n i z r t d))] 1 ⟨mP _,trivial⟩ e (GZ f)]
 rcases s with _|⟨b,s⟩
 .rcases l with rfl|rfl<;>exact absurd rfl e
 have j:=wX (.mk k n i z r t d);have q:=wX b;have g:xm 78 (sm m (.mk k n i z r t d::b::s))=bz (sm m s) [aZ (kJ (.mk k n i z r t d)&&kJ b)]:=rfl;have h:xm 79 (sm m (.mk k n i z r t d::b::s))=bz (sm m s) [aZ (kJ (.mk k n i z r t d)||kJ b)]:=rfl;rcases l with rfl|rfl
 all_goals
  first|rw[g]at e|- | rw[h]at e|-
  clear g h;generalize kJ (.mk k n i z r t d)=x at j e|-;generalize kJ b=y at q e|-;cases x
 .exact eH [sm m (b::s),sm m s] func198 [tk m (.mk k n i z r t d) (b::s) 0,tk m b s 1,up j,up (pJ false),pt m s [aZ false] 2 ⟨mP _,trivial⟩ e (OU f)]
 .exact eH [sm m (b::s),sm m s] func198 [tk m (.mk k n i z r t d) (b::s) 0,tk m b s 1,up j,up q,up (pJ y),pt m s [aZ y] 2 ⟨mP _,trivial⟩ e (OU f)]
 .exact eH [sm m (b::s),sm m s] func198 [tk m (.mk k n i z r t d) (b::s) 0,tk m b s 1,up j,up q,up (pJ y),pt m s [aZ y] 2 ⟨mP _,trivial⟩ e (OU f)]
 .exact eH [sm m (b::s),sm m s] func198 [tk m (.mk k n i z r t d) (b::s) 0,tk m b s 1,up j,up (pJ true),pt m s [aZ true] 2 ⟨mP _,trivial⟩ e (OU f)]
end
def tl (b v:Bool):Prop:=some (aQ b)=some (.of (bA v))
def zZ{b v:Bool}(h:b=v):tl b v:=by rw[h];rfl
def fE{b v:Bool}(h:b=v):∀p∈[tl b v],p:=by simp[zZ h]
def sM{b v a c:Bool}(h:b=v)(d:a=c):∀p∈[tl b v,tl a c],p:=by simp[zZ h,zZ d]
def IC{b v a d c e:Bool}(h:b=v)(f:a=d)(g:c=e):∀p∈[tl b v,tl a d,tl c e],p:=by simp[zZ h,zZ f,zZ g]
def df{p:Prop}[Decidable p](h:¬p):decide p=false:=xb h
def dt{p:Prop}[Decidable p](h:p):decide p:=zj h
def nt{p:Prop}[Decidable p](h:¬p):(!decide p):=by simp[h]
section
variable {c:Mc}{m:Ma}{p:Int}{ps:Nat->Ma->Prop}
theorem AP{K:Int}{l:ao}(hK:bD K)(hk:okVs l)(hne:jP m K l ≠ .stuck)(hlen:m.st.length<=50000000):HO c m 217 [iA K,qi l] (jP m K l):=by
 have hl:(vasD l).length=l.length:=by simp[vasD_map]
 by_cases h:24<l.length
 .have e:jP m K l =.no 13 m:=by unfold jP;rw[if_pos h]
  rw[e];exact Ol [] [(9,bA true)] func217 [] (ob:=[tl (decide ((24:Int)<((vasD l).length:Nat))) true]) (fE (dt (by omega))) (λx hx=>by cases hx;exact⟨by decide,rfl,rfl⟩)
 .have e:jP m K l=bz m [mkV K l]:=by unfold jP;rw[if_neg h]
  rw[e]at hne|-;exact sI [] [(9,bA false)] func217 [up (EA K l),pt m m.st [mkV K l] 0 ⟨BK hK hk,trivial⟩ hne hlen] (ob:=[tl (decide ((24:Int)<((vasD l).length:Nat))) false]) (fE (df (by omega)))
def Xr{l r:ao}{x:Va}(a:okVs l)(c:okV x)(d:okVs r):okVs (uO l x r):=okVs_at.2 λy b=>by
 unfold uO at b;rcases ka.1 b with h|h
 .exact okVs_at.1 a y (qe5 h)
 .rcases ka.1 h with h|h
  .obtain⟨z,e,rfl⟩:=kl.1 h;exact si c (okVs_at.1 d z e)
  .exact okVs_at.1 a y (qh3 h)
def Mo{HU:∀l x r,okVs l->okV x->okVs r->r.length<=1->vsizes l<=9000000->risesF l->Hd ⟨220,[qi l,pF x,qi r],.of (qi (uO l x r))⟩}
 (P:p=56\/p=57\/p=59\/p=61\/p=62\/p=63) (hf:Fn m) (hz:∀x∈m.st,x.size<=9000000/\x.s.size<=10000000) (h63:p=63->∀a b d s,m.st=a::b::d::s->b.args.length<=1) (hne:il p m ≠ .stuck):HO c m 194 [iA p] (il p m):=by
 obtain⟨m,s,rfl⟩:∃M s,m=sm M s:=⟨m,m.st,rfl⟩;have⟨Q,I,h3⟩:=hf;have O:∀l:ao,(vasD l).length=l.length:=λl=>KK
 rcases P with rfl|rfl|rfl|rfl|rfl|rfl
 .simp only[il,↓reduceIte]at hne|-;exact eH [] func194 [up (EB 10),pt m s [mkV 10 []] 0 ⟨BK i64 trivial,trivial⟩ hne I]
 .rcases s with _|⟨a,_|⟨b,s⟩⟩
  .exact absurd rfl hne
  .exact absurd rfl hne
  have⟨L,J,T⟩:=Q;have H:=hz b (.tail _ (.head _));have⟨k,n,i,z,r,t,d⟩:=a;have⟨o,n1,j,w,f,v,g⟩:=b;have hl:f.length<=10000000:=by have:=len_vsizes f;have:=H.1;simp only[Va.size]at this;omega
  simp only[il,Int.reduceEq,↓reduceIte]at hne|-;exact eH [sm m (.mk o n1 j w f v g::s),sm m s] func194 [tk m (.mk k n i z r t d) (.mk o n1 j w f v g::s) 0,tk m (.mk o n1 j w f v g) s 1,up (Da (m:=7) (n:=7) (l:=[.mk k n i z r t d]) (r:=f) (.inl rfl) (.inl rfl) ot),pu (AP (m:=sm m s) (K:=10) (l:=.mk k n i z r t d::f) i64 ⟨L,J.2.1⟩ hne (OU I)) 2]
 .rcases s with _|⟨a,s⟩
  .exact absurd rfl hne
  have⟨L,J⟩:=Q;have H:=hz a (.head _);have⟨k,n,i,z,r,t,d⟩:=a;have hl:=O r;have aa:r.length<=10000000:=by have:=len_vsizes r;have:=H.1;simp only[Va.size]at this;omega
  have ab:z.size<=10000000:=H.2;simp only[il,Int.reduceEq,↓reduceIte]at hne|-;exact sI [sm m s] [(39,iA ((z.size+r.length:Nat):Int))] func194 [tk m (.mk k n i z r t d) s 0,up (eU 4 ((z.size+r.length:Nat):Int)),pt m s [aW 4 ((z.size+r.length:Nat):Int)] 1 ⟨oN i64 vu,trivial⟩ hne (GZ I)]
   (ob:=[some (lW (IntKind.i64.wrap ((z.size:Int)+((vasD r).length:Int))))=some (.of (iA ((z.size+r.length:Nat):Int)))]) (by intro p P;rw[qu.1 P,hl,show (z.size:Int)+(r.length:Int)=((z.size+r.length:Nat):Int) by omega,wNq _ od];rfl)
 .simp only[il,Int.reduceEq,↓reduceIte]at hne|-;exact eH [] func194 [up (EB 13),pt m s [mkV 13 []] 0 ⟨BK i64 trivial,trivial⟩ hne I]
 .rcases s with _|⟨a,_|⟨b,s⟩⟩
  .exact absurd rfl hne
  .exact absurd rfl hne
  have⟨L,J,T⟩:=Q;have H:=hz b (.tail _ (.head _));have⟨o,n1,j,w,f,v,g⟩:=b;have N:risesF f:=by
   cases h:risesF f with
   | true=>rfl
   | false=>exact absurd (by simp only[il,Va.args,Int.reduceEq,↓reduceIte,h];rfl) hne
  have R:=FN (y:=a) (by have:=H.1;simp only[Va.size]at this;omega) N;have e:il 62 (sm m (a :: .mk o n1 j w f v g::s))=if fJ f a then (match f[bZ f a]? with
   | some x=>(match x.args with
    | _::y::_=>bz (sm m s) [aV y]
    | _=>.stuck)
   | none=>.stuck)else bz (sm m s) [noneV]:=by simp only[il,Va.args,Int.reduceEq,↓reduceIte,N];rfl
  rw[e]at hne|-;clear e
  cases hF:fJ f a with
  | false =>
   rw[hF]at hne R;simp only[qc6,↓reduceIte]at hne|-;exact eH [sm m (.mk o n1 j w f v g::s),sm m s] func194 [tk m a (.mk o n1 j w f v g::s) 0,tk m (.mk o n1 j w f v g) s 1,up R,up H_none,pt m s [noneV] 2 ⟨ok_none,trivial⟩ hne (OU I)]
  | true =>
   rw[hF]at hne R;simp only[↓reduceIte]at hne|-
   cases S:f[bZ f a]? with
   | none=>rw[S]at hne;exact absurd rfl hne
   | some q =>
    rw[S]at hne;have Y:=okVs_at.1 J.2.1 q (jz S);have hi:Bp 7 7 (vasD f) (bZ f a)=some (.of (.one (.e (vaD q) 0))):=by unfold Bp;rw[vasD_map,qa5,S];have⟨X,nq,W,zq,rq,Z,U⟩:=q;rfl
    have⟨X,nq,W,zq,rq,Z,U⟩:=q;rcases rq with _|⟨u,_|⟨⟨D,E,C,G,A,F,B⟩,rq⟩⟩
    .exact absurd rfl hne
    .exact absurd rfl hne
    simp only at hne|-;exact sI [sm m (.mk o n1 j w f v g::s),sm m s] [(79,.one (.e (vaD (.mk X nq W zq (u :: .mk D E C G A F B::rq) Z U)) 0))] func194 [tk m a (.mk o n1 j w f v g::s) 0,tk m (.mk o n1 j w f v g) s 1,up R,up (mU (.mk D E C G A F B)),pt m s [aV (.mk D E C G A F B)] 2 ⟨pO Y.2.1.2.1,trivial⟩ hne (OU I)]
     (ob:=[Bp 7 7 (vasD f) (bZ f a)=some (.of (.one (.e (vaD (.mk X nq W zq (u :: .mk D E C G A F B::rq) Z U)) 0)))]) (λp P=>by rw[qu.1 P];exact hi)
 .rcases s with _|⟨a,_|⟨b,_|⟨d,s⟩⟩⟩
  .exact absurd rfl hne
  .exact absurd rfl hne
  .exact absurd rfl hne
  have⟨L,J,T,q4⟩:=Q;have H:=hz d (.tail _ (.tail _ (.head _)));have N:risesF d.args:=by
   cases h:risesF d.args with
   | true=>rfl
   | false=>exact absurd (by simp only[il,Int.reduceEq,↓reduceIte,h];rfl) hne
  have V:=h63 rfl a b d s rfl;have e:il 63 (sm m (a::b::d::s))=jP (sm m s) 13 (uO d.args a b.args):=by simp only[il,Int.reduceEq,↓reduceIte,N]
  rw[e]at hne|-;have⟨o,n1,j,w,f,v,g⟩:=b;have⟨D,E,C,G,A,F,B⟩:=d;exact eH [sm m (.mk o n1 j w f v g :: .mk D E C G A F B::s),sm m (.mk D E C G A F B::s),sm m s] func194 [tk m a (.mk o n1 j w f v g :: .mk D E C G A F B::s) 0,tk m (.mk o n1 j w f v g) (.mk D E C G A F B::s) 1,tk m (.mk D E C G A F B) s 2,
   up (HU A a f T.2.1 L J.2.1 V (by have:=H.1;simp only[Va.size]at this;omega) N),pu (AP (m:=sm m s) (K:=13) (l:=uO A a f) i64 (Xr T.2.1 L J.2.1) hne (Zu I)) 3]
def pI{K n e:Int}(hK:bD K)(hn:bD n)(b:oV m K (n,e) ≠ .stuck)(a:m.st.length<=50000000):HO c m 223 [iA K,iA n,iA e] (oV m K (n,e)):=by
 by_cases h:e=0
 .subst h;simp only[oV,↓reduceIte]at b|-;exact eH [] func223 [up (eU K n),pt m m.st [aW K n] 0 ⟨oN hK hn,trivial⟩ b a]
 .have d:oV m K (n,e) =.no e m:=by unfold oV;rw[if_neg h]
  rw[d];exact Ol [] [(10,bA true)] func223 [] (fE (nt h)) (λx f=>by cases f;exact⟨h,rfl,rfl⟩)
def SK{a b:Int}(c:kE a)(hb:kE b)(h:b=0):Hd ⟨240,[iA a,iA b],.rz [iA 0,iA 0,iA 6]⟩:=by have:=Pd a b c hb;simp only[h,↓reduceIte]at this|-;exact this
def wV{a b:Int}(c:kE a)(hb:kE b)(h:b≠0):Hd ⟨240,[iA a,iA b],.rz [iA (a / b),iA (a % b),iA 0]⟩:=by have:=Pd a b c hb;simp only[h,↓reduceIte]at this|-;exact this
def Xb{a b:Int}(c:kE a)(hb:kE b)(h:b≠0):bD (a / b)/\bD (a % b):=by have d:=aX c;have e:=aX hb;have f:=R4 a h;have g:=Cs a h;unfold bD;omega
def Mm{a b:Va}(l:kE a.n)(hb:kE b.n)(g:Gu m a b ≠ .stuck)(j:m.st.length<=50000000):HO c m 224 [pF a,pF b] (Gu m a b):=by
 have⟨k,n,i,z,r,t,d⟩:=a;have⟨o,f,v,B,w,A,u⟩:=b;have l:kE n:=l;have hb:kE f:=hb
 by_cases h:f=0
 .have e:Gu m (.mk k n i z r t d) (.mk o f v B w A u)=bz m [noneV]:=by subst h;simp[Gu,Va.n,l,hb]
  rw[e]at g|-;exact eH [] func224 [up (SK l hb h),up H_none,pt m m.st [noneV] 0 ⟨ok_none,trivial⟩ g j]
 .have e:Gu m (.mk k n i z r t d) (.mk o f v B w A u)=bz m [aV (aY (aW (rH k o).1 (n / f)) (aW (rH k o).2 (n % f)))]:=by simp[Gu,Va.n,Va.k,l,hb,h]
  rw[e]at g|-;have⟨E,F⟩:=Xb l hb h;clear e;have ok:∀x y:Int,bD x->bD y->okVs [aV (aY (aW x (n / f)) (aW y (n % f)))]:=λx y C D=>⟨pO (si (oN C E) (oN D F)),trivial⟩
  by_cases q:k=5
  .subst q
   by_cases p:o=5
   .subst p;simp only[rH,and_self,↓reduceIte]at g|-;exact eH [] func224 [up (wV l hb h),up (eU 4 (n / f)),up (eU 5 (n % f)),up (pX (aW 4 (n / f)) (aW 5 (n % f))),up (mU (aY (aW 4 (n / f)) (aW 5 (n % f)))),pt m m.st [aV (aY (aW 4 (n / f)) (aW 5 (n % f)))] 0 (ok _ _ i64 i64) g j]
   .have e:rH 5 o=(5,5):=by simp[rH,p]
    rw[e]at g|-;exact sI [] [(39,bA false)] func224 [up (wV l hb h),up (eU 5 (n / f)),up (eU 5 (n % f)),up (pX (aW 5 (n / f)) (aW 5 (n % f))),up (mU (aY (aW 5 (n / f)) (aW 5 (n % f)))),pt m m.st [aV (aY (aW 5 (n / f)) (aW 5 (n % f)))] 0 (ok _ _ i64 i64) g j] (fE (df p))
  .by_cases s:k=4
   .subst s
    by_cases p:o=4
    .subst p;simp only[rH,Int.reduceEq,and_self,↓reduceIte]at g|-;exact eH [] func224 [up (wV l hb h),up (eU 4 (n / f)),up (eU 4 (n % f)),up (pX (aW 4 (n / f)) (aW 4 (n % f))),up (mU (aY (aW 4 (n / f)) (aW 4 (n % f)))),pt m m.st [aV (aY (aW 4 (n / f)) (aW 4 (n % f)))] 0 (ok _ _ i64 i64) g j]
    .have e:rH 4 o=(3,4):=by simp[rH,p]
     rw[e]at g|-;exact sI [] [(52,bA false)] func224 [up (wV l hb h),up (eU 3 (n / f)),up (eU 4 (n % f)),up (pX (aW 3 (n / f)) (aW 4 (n % f))),up (mU (aY (aW 3 (n / f)) (aW 4 (n % f)))),pt m m.st [aV (aY (aW 3 (n / f)) (aW 4 (n % f)))] 0 (ok _ _ i64 i64) g j] (fE (df p))
   .have e:rH k o=(3,4):=by simp[rH,q,s]
    rw[e]at g|-;exact sI [] [(35,bA false),(44,bA false),(48,bA false)] func224 [up (wV l hb h),up (eU 3 (n / f)),up (eU 4 (n % f)),up (pX (aW 3 (n / f)) (aW 4 (n % f))),up (mU (aY (aW 3 (n / f)) (aW 4 (n % f)))),pt m m.st [aV (aY (aW 3 (n / f)) (aW 4 (n % f)))] 0 (ok _ _ i64 i64) g j] (IC (df q) (df q) (df s))
def Mq{a b:Int}(d:p=69\/p=70\/p=71)(c:kE a)(hb:kE b):Hd ⟨225,[iA p,iA a,iA b],OG (iU p a b)⟩:=by
 rcases d with rfl|rfl|rfl
 .exact aF func225 [⟨_,VI a b⟩]
 .exact aF func225 [⟨_,X8 a b⟩]
 .exact aF func225 [⟨_,X6 a b c hb⟩]
def Ph{a b:Int}(f:p=69\/p=70\/p=71):Hd ⟨226,[iA p,iA a,iA b],.of (iA (mK p a b))⟩:=by
 by_cases d:a=5
 .subst d;rcases f with rfl|rfl|rfl<;>exact aF func226 []
 by_cases c:b=5
 .subst c;have e:mK p a 5=5:=by simp[mK]
  rw[e];rcases f with rfl|rfl|rfl<;>exact runT func226 [(9,bA false)] [] (fE (df d))
 by_cases g:a=4
 .subst g
  by_cases h:b=4
  .subst h;rcases f with rfl|rfl|rfl<;>exact aF func226 []
  .have e:mK p 4 b=3:=by simp[mK,c,h]
   rw[e];rcases f with rfl|rfl|rfl
   .exact runT func226 [(12,bA false),(23,bA false)] [] (sM (df c) (df h))
   .exact runT func226 [(12,bA false)] [] (fE (df c))
   .exact runT func226 [(12,bA false),(23,bA false)] [] (sM (df c) (df h))
 .have e:mK p a b=3:=by simp[mK,d,c,g]
  rw[e];rcases f with rfl|rfl|rfl
  .exact runT func226 [(9,bA false),(12,bA false),(19,bA false)] [] (IC (df d) (df c) (df g))
  .exact runT func226 [(9,bA false),(12,bA false)] [] (sM (df d) (df c))
  .exact runT func226 [(9,bA false),(12,bA false),(19,bA false)] [] (IC (df d) (df c) (df g))
def Xn{p a b:Int} : bD (mK p a b):=by
 unfold mK;split
 .exact i64
 .split<;>exact i64
def QB{r:Int} : bD (kF r).1:=by
 unfold kF;split
 .rename_i h;have:=aX h;unfold bD;omega
 .exact i64
def Ru{a b:Int} : bD (iU p a b).1:=by
 unfold iU addN Iu mulN
 repeat' split
 all_goals first|exact QB|exact i64
def Yk{a:Int} : bD (EJ a).1:=by
 unfold EJ;split
 .rename_i h;have:=aX h;unfold bD;show _/\_;simp only;omega
 .exact i64
def Mr(D:p=69\/p=70\/p=71\/p=72\/p=93\/p=94\/p=95)(Q:Fn m)(hb:(p=69\/p=70\/p=71\/p=72)->∀a b s,m.st=a::b::s->kE a.n/\kE b.n)(f:gL p m ≠ .stuck):HO c m 197 [iA p] (gL p m):=by
 obtain⟨m,s,rfl⟩:∃M s,m=sm M s:=⟨m,m.st,rfl⟩;have⟨P,N,R⟩:=Q;rcases s with _|⟨a,s⟩
 .exact absurd rfl f
 have⟨O,S⟩:=P;have⟨k,n,i,z,r,t,d⟩:=a;have B:=GZ N
 by_cases F:p=93
 .subst F;simp only[gL,↓reduceIte]at f|-;exact eH [sm m s] func197 [tk m (.mk k n i z r t d) s 0,up (X3 n),pu (pI (m:=sm m s) (K:=4) (n:=(EJ n).1) (e:=(EJ n).2) i64 Yk f B) 1]
 by_cases G:p=94
 .subst G
  by_cases h:n<0
  .have e:gL 94 (sm m (.mk k n i z r t d::s))=bz (sm m s) [noneV]:=by simp[gL,Va.n,h]
   rw[e]at f|-;exact sI [sm m s] [(30,bA true)] func197 [tk m (.mk k n i z r t d) s 0,up H_none,pt m s [noneV] 1 ⟨ok_none,trivial⟩ f B] (fE (dt h))
  .have e:gL 94 (sm m (.mk k n i z r t d::s))=bz (sm m s) [aV (aW 4 n)]:=by simp[gL,Va.n,h]
   rw[e]at f|-;exact sI [sm m s] [(30,bA false)] func197 [tk m (.mk k n i z r t d) s 0,up (eU 4 n),up (mU (aW 4 n)),pt m s [aV (aW 4 n)] 1 ⟨pO (oN i64 O.1.2.1),trivial⟩ f B] (fE (df h))
 by_cases H:p=95
 .subst H;simp only[gL,Int.reduceEq,↓reduceIte]at f|-;exact eH [sm m s] func197 [tk m (.mk k n i z r t d) s 0,up (eU 3 n),pt m s [aW 3 n] 1 ⟨oN i64 O.1.2.1,trivial⟩ f B]
 replace D:p=69\/p=70\/p=71\/p=72:=od
 rcases s with _|⟨b,s⟩
 .rcases D with rfl|rfl|rfl|rfl<;>exact absurd rfl f
 have⟨J,L⟩:=hb D _ b s rfl;have⟨o,l,u,x,v,w,q⟩:=b;replace B:=OU N
 by_cases E:p=72
 .subst E;simp only[gL,Int.reduceEq,↓reduceIte]at f|-;exact eH [sm m (.mk o l u x v w q::s),sm m s] func197 [tk m (.mk k n i z r t d) (.mk o l u x v w q::s) 0,tk m (.mk o l u x v w q) s 1,pu (Mm (m:=sm m s) J L f B) 2]
 replace D:p=69\/p=70\/p=71:=od
 have hK:=Ph (a:=k) (b:=o) D;have C:=Mq D J L;have A:=Ru (p:=p) (a:=n) (b:=l)
 by_cases I:p=70/\k=5
 .obtain⟨rfl,rfl⟩:=I;have e:gL 70 (sm m (.mk 5 n i z r t d :: .mk o l u x v w q::s))=bz (sm m s) [if (iU 70 n l).1<0 then noneV else aV (aW 5 (iU 70 n l).1)]:=by simp only[gL,Va.n,Va.k,Int.reduceEq,↓reduceIte,and_self];rfl
  rw[e]at f|-;clear e hK;simp only[Va.n]at C;generalize iU 70 n l=g at f C A|-
  by_cases h:g.1<0
  .simp only[h,↓reduceIte]at f|-;exact sI [sm m (.mk o l u x v w q::s),sm m s] [(76,bA true)] func197 [tk m (.mk 5 n i z r t d) (.mk o l u x v w q::s) 0,tk m (.mk o l u x v w q) s 1,up C,up H_none,pt m s [noneV] 2 ⟨ok_none,trivial⟩ f B] (fE (dt h))
  .simp only[h,↓reduceIte]at f|-;exact sI [sm m (.mk o l u x v w q::s),sm m s] [(76,bA false)] func197 [tk m (.mk 5 n i z r t d) (.mk o l u x v w q::s) 0,tk m (.mk o l u x v w q) s 1,up C,up (eU 5 g.1),up (mU (aW 5 g.1)),pt m s [aV (aW 5 g.1)] 2 ⟨pO (oN i64 A),trivial⟩ f B] (fE (df h))
 .have e:gL p (sm m (.mk k n i z r t d :: .mk o l u x v w q::s))=oV (sm m s) (mK p k o) (iU p n l):=by simp only[gL,F,G,H,E,I,↓reduceIte,Va.n,Va.k]
  rw[e]at f|-;clear e;have y:=Xn (p:=p) (a:=k) (b:=o);simp only[Va.n]at C;generalize iU p n l=g at f C A|-;generalize mK p k o=j at f hK y|-;have⟨g1,g2⟩:=g;rcases D with rfl|rfl|rfl
  .exact eH [sm m (.mk o l u x v w q::s),sm m s] func197 [tk m (.mk k n i z r t d) (.mk o l u x v w q::s) 0,tk m (.mk o l u x v w q) s 1,up C,up hK,pu (pI (m:=sm m s) (K:=j) (n:=g1) (e:=g2) y A f B) 2]
  .exact sI [sm m (.mk o l u x v w q::s),sm m s] [(73,bA false)] func197 [tk m (.mk k n i z r t d) (.mk o l u x v w q::s) 0,tk m (.mk o l u x v w q) s 1,up C,up hK,pu (pI (m:=sm m s) (K:=j) (n:=g1) (e:=g2) y A f B) 2] (fE (df (λh=>I ⟨rfl,h⟩)))
  .exact eH [sm m (.mk o l u x v w q::s),sm m s] func197 [tk m (.mk k n i z r t d) (.mk o l u x v w q::s) 0,tk m (.mk o l u x v w q) s 1,up C,up hK,pu (pI (m:=sm m s) (K:=j) (n:=g1) (e:=g2) y A f B) 2]
end
section
variable {B:Nat}{w:cg}
def lQ{e:TypeId}{a n g cap:Nat} : ∀(vs:bo) (o:Nat) {w:cg}{xs:bo},w.ownsRow B e a (.o g n cap) n xs->o+vs.length<=xs.length ->
 (w.setCells g o vs).ownsRow B e a (.o g n cap) n (xs.take o++vs++xs.drop (o+vs.length))/\cq w (w.setCells g o vs) (some g)
 | [],o,w,xs,h,_=>by simp only[World.setCells,qb0,qa0,qf6,qd1];exact⟨h,bf _ _⟩
 | v::r,o,w,xs,h,d=>by
  simp only[jj]at d;have b:=h.stored o v;have c:=lQ r (o+1) b.1 ot;refine⟨?_,K6 b.2 c.2⟩;have e:(xs.set o v).take (o+1)++r++(xs.set o v).drop (o+1+r.length)=xs.take o++(v::r)++xs.drop (o+(v::r).length):=by rw[List.drop_set_of_lt od,List.take_set,List.set_eq_take_append_cons_drop,if_pos ot];simp[jg7,qg2,Nat.add_comm,qb7];omega
  rw[<-e];exact c.1
def zero7l:bo:=[.i 0,.i 0,.i 0,.string ⟨#[]⟩,.n0,.n0,.n0]
def Km(w:cg)(ty:TypeId)(b o c:Nat)(hc:∀j,j<7->(w.cell? ⟨b,o+j,none⟩).isSome)(f:∀j,j<7->w.frozen? ⟨b,o+j,none⟩=false) :
 (Builtin.clear_ #[26] ty #[.slice (some ⟨b,o,none⟩) 1 c]).run prog w =.ok (.tuple #[]) (w.setCells b o zero7l):=by
 have g:∀w,(zeroValue 29).run prog w =.ok (.agg #[.i 0,.i 0,.i 0,.string ⟨#[]⟩,.n0,.n0,.n0]) w:=λw=>oA
 have e:(Builtin.zeroCells (Value.cells (.agg #[.i 0,.i 0,.i 0,.string ⟨#[]⟩,.n0,.n0,.n0])) 1).toList=zero7l:=oA
 have a:=run_storeCells_cells (P:=prog) b o zero7l 0 w (by simpa[zero7l]using hc) (by simpa[zero7l]using f) (by intro v d;simp[zero7l]at d;rcases d with rfl|rfl|rfl|rfl<;>rfl);simp only[qf6]at a;simp[Builtin.clear_,qa7 underlying26,g,e,a]
def mh{e:TypeId}{size n g cap:Nat}{xs:bo}(h:w.ownsRow B e size (.o g n cap) n xs)(j:Nat)(c:j<xs.length):∃x,xs[j]?=some x/\w.cell? ⟨g,j,none⟩=some x:=by
 refine⟨xs[j],qt c,?_⟩;rcases h.2 with⟨b,_⟩|⟨p,f,d,b,q,m,o,k,l,a⟩
 .simp at b
 .simp only[ye,qq,jb2,and_true,true_and]at b;obtain⟨rfl,rfl⟩:=b;have i:xs[j]?=d.toList[j]?:=by rw[<-a,qe3];rw[if_pos];rw[<-a]at c;simp at c;omega
  rw[qt c]at i;simp[World.cell?,m,<-qg3,<-i]
def Sy (B:Nat) (w:cg) (g L cap:Nat) (us:bo) (e:Ending) (w':cg):Prop:=e =.returned (.o g L cap)/\w'.ownsRow B 29 7 (.o g L cap) L us/\cq w w' (some g)
def Js{g L cap i J:Nat}(C:J=i+1){xs ys zs:bo}(h:w.ownsRow B 29 7 (.o g (L+1) cap) (L+1) (xs++ys++zs))(Q:xs.length=i*7)(R:ys.length=7)(F:zs.length=(L - i)*7)(hi:i<=L)(y:∀u∈zs,u.oneCell')(hc:L+1<=cap/\cap<=maxLen) :
 Calls prog 210 #[.o g (L+1) cap,.i (i:Int),.i (J:Int)] w (Sy B w g L cap (xs++zs)):=by
 have⟨S,m,_,q,_⟩:=jg1 mr;have r:=jh m;have s:=jh q;clear m q;have n:(xs++ys++zs).length=(L+1)*7:=ot
 have⟨A,hA,o⟩:∃A:Addr,(if cap=J then some (⟨g,0,none⟩:Addr)else some ⟨g,J*7,none⟩)=some A/\Hid (∀t u,zs[t]?=some u->w.drew.cell? (A.add t)=some u):=by
  by_cases E:cap=J
  .refine⟨⟨g,0,none⟩,by simp[E],λt u p=>?_⟩;have I:zs.length=0:=by omega
   rw[List.length_eq_zero_iff.1 I]at p;simp at p
  .refine⟨⟨g,J*7,none⟩,by simp[E],λt u p=>?_⟩;have P:=(qS.1 p).1;have⟨x,k,c⟩:=mh h (J*7+t) od;rw[zE ot]at k;have H:J*7+t - (xs++ys).length=t:=by simp;omega
   rw[H,p]at k;cases k;rw[Addr.add_lit];exact c
 have W:Hid (zs.length=(L - i)*7):=F;have X:=jh y;have Y:Hid (∀t,t<zs.length->(w.drew.cell? ⟨g,0+i*7+t,none⟩).isSome/\w.drew.frozen? ⟨g,0+i*7+t,none⟩=false):=by intro t P;have⟨x,k,c⟩:=mh h (0+i*7+t) od;exact⟨by show (w.cell? _).isSome;rw[c];rfl,h.frozenAt _⟩
 have D:w.drew.ownsRow B 29 7 (.o g (L+1) cap) (L+1) (xs++ys++zs):=h;have a:=lQ zs (0+i*7) D ot;have⟨b,d⟩:∃b,b=w.drew.setCells g (0+i*7) zs:=⟨_,rfl⟩;rw[<-d]at a;have N:∀v,(Builtin.clear_ #[26] v #[.slice (some ⟨g,L*7,none⟩) 1 (cap - L)]).run prog b =.ok (.tuple #[]) (b.setCells g (L*7) zero7l):=λv=>Km b v g (L*7) _ (λj O=>by have⟨x,k,c⟩:=mh a.1 (L*7+j) ot;rw[c];rfl) (λj O=>a.1.frozenAt _)
 have f:=lQ zero7l (L*7) a.1 (by simp[zero7l];omega);have l:cq w (b.setCells g (L*7) zero7l) (some g):=K6 (K6 (kY (bf w _)) a.2) f.2;have hcut:(b.setCells g (L*7) zero7l).ownsRow B 29 7 (.o g L cap) L (xs++zs):=by
  have z:=f.1;have e:(xs++ys++zs).take (0+i*7)=xs:=by rw[qa6];exact jd7 od
  have c:((xs++zs++(xs++ys++zs).drop (0+i*7+zs.length))).take (L*7)=xs++zs:=jd7 ot;rw[e,c,qa6]at z;exact uF z ot
 have G:Hid (Sy B w g L cap (xs++zs) (.returned (.o g L cap)) (b.setCells g (L*7) zero7l)):=⟨rfl,hcut,l⟩;have hW:Hid (b=w.drew.setCells g (0+i*7) zs):=d;clear hcut a f D l h d;have q1:(i:Int)<=(J:Int):=od
 have q2:(J:Int)<=(L:Int)+1:=od
 have q3:((i:Int)==(J:Int))=false:=by rw[ja0];omega
 have q4:(i:Int)<=cap:=od
 have q5:(L:Int)+1<=cap:=od
 have q6:(J:Int)<=cap:=od
 have q7:L+1 - J=L - i:=od
 have q8:i+(L - i)=L:=od
 have q9:¬cap=L:=od
 have T:L+1 - L=1:=od
 have U:(L:Int)<=(L:Int)+1:=od
 have V:(L:Int)<=cap:=od
 have Z:=jh C;have HI:=jh hi;have⟨K,M⟩:=hc;clear C hi F Q R y n;go_enter func210,ntmps210;go_wp2_with fail;go_region_law (refine step_append_room rfl (.tmp 22) (.tmp 25) 26 rfl 29 S 7 underlying26 r s g 0 i cap vp A (L - i) (cap - J) zs vp W o X (by have:=HI.out;omega) Y ?_;rw[<-hW.out])
 go_wp2
 go_ret;exact G
def Rb{e:TypeId}{size L g cap:Nat}{xs:bo}(h:w.ownsRow B e size (.o g L cap) L xs)(hc:L+1<=cap):∃ys,ys.length=size/\w.ownsRow B e size (.o g (L+1) cap) (L+1) (xs++ys):=by
 have n:=h.1;rcases h.2 with⟨c,_⟩|⟨o,i,b,c,k,l,m,d,f,a⟩
 .simp at c
 .simp only[ye,qq,jb2,and_true,true_and]at c;obtain⟨rfl,rfl⟩:=c;have p:(L+1)*size<=cap*size:=qh2 _ hc;have j:(L+1)*size=L*size+size:=by rw[qf7,Nat.one_mul]
  refine⟨(b.toList.drop (L*size)).take size,ot,by simp[n];omega,.inr ⟨g,cap,b,rfl,k,l,hc,d,f,?_⟩⟩;rw[<-a,j,List.take_add]
def Kv{b:Array Oper}{o:Oper}{a:Act}{w:cg}{K:Act->cg->Prop}{Q:Exit->Act->cg->Prop}{E:Prop}
 (hg:o.guard=none) (d x:Operand) (dT sT:TypeId) (hop:o.op=Op.call { callee:=Callee.builtin Builtin.copy,args:=#[d,x],argTypes:=#[dT,sT] })
 (v u:cm) (hd:a.eval d=v) (hx:a.eval x=u) {v':cm} {w':cg} (hr:(Builtin.copy_ #[dT,sT] o.type #[v,u]).run prog w =.ok v' w') (hK:K (a.put o.dst v') w') :
 if Region.wanted o (yielded b a.tmps)then Oper.wp prog o a w K Q else E:=by
 have c:Region.wanted o (yielded b a.tmps):=by simp[Region.wanted,hg]
 rw[if_pos c];unfold Oper.wp;simp[execOp,hop,resolve,invoke,builtin,hd,hx,hr,Result.andThen];exact hK
def JO{c:Array Oper}{b:List Oper}{o:Oper}{a:Act}{w:cg}{Q:Exit->Act->cg->Prop}(e:o.guard=none)(d s:Operand)(t f:TypeId)
 (ho:o.op =.call { callee:=.builtin .copy,args:=#[d,s],argTypes:=#[t,f] }) (v u:cm) (hd:a.eval d=v) (hs:a.eval s=u) {v':cm} {w':cg}
 (hr:(Builtin.copy_ #[t,f] o.type #[v,u]).run prog w =.ok v' w') (h:wpList prog c Q b (a.put o.dst v') w'):wpList prog c Q (o::b) a w :=
 wpList_plain e λ_ hK=>by unfold Oper.wp execOp;simp only[ho,resolve,invoke,builtin,qc1,je3,Result.andThen_ok,List.map_toArray,qb2,qg6,hd,hs,hr];exact hK _ _ h
def Ee(w:cg)(ty:TypeId)(b o c e:Nat)(a:Addr)(d g:Nat)(cs:bo)(hn:cs.length=Nat.min d c*7)
 (hsrc:∀j v,cs[j]?=some v->w.cell? (a.add j)=some v) (hc:∀j,j<cs.length->(w.cell? ⟨b,o+j,none⟩).isSome) (hf:∀j,j<cs.length->w.frozen? ⟨b,o+j,none⟩=false) (h1:∀v∈cs,v.oneCell') :
 (Builtin.copy_ #[26,26] ty #[.slice (some ⟨b,o,none⟩) c e,.slice (some a) d g]).run prog w =.ok (goInt (Nat.min d c)) (w.setCells b o cs):=by
 have⟨l,h,_,i,_⟩:=jg1 mr;have k:=run_loadCells_list (P:=prog) w a cs hsrc;have f:=run_storeCells_cells (P:=prog) b o cs 0 w (by simpa using hc) (by simpa using hf) h1;simp only[qf6]at f;simp[Builtin.copy_,qa7 underlying26,Builtin.lenOf,Builtin.firstCells,sizeOf,typeInfo,h,i,<-hn,k,f]
def vL{a b:Nat}(h:b=a+1)(hb:b<=maxLen):wrap64 ((a:Int)+1)=(b:Int)/\IntKind.i64.wrap ((a:Int)+1)=(b:Int):=by unfold maxLen at hb;rw[qa2];unfold wrap64;omega
def JG{g L cap i J N v:Nat}{xs zs vs:bo}(I:J=i+1)(K:N=L+1)(h:w.ownsRow B 29 7 (.o g L cap) L (xs++zs))(W:xs.length=i*7)(X:zs.length=(L - i)*7)(hi:i<L)(U:∀u∈zs,u.oneCell')(hc:L+1<=cap/\cap<=maxLen)
 (hv:w.heap[v]?=some (.cells vs.toArray 29)) (hvs:vs.length=7) (s:∀u∈vs,u.oneCell') (hne:v≠g) :
 Calls prog 211 #[.o g L cap,.i (i:Int),.o v 1 1] w (Sy B w g (L+1) cap (xs++vs++zs)):=by
 have⟨i0,A,_,D,_⟩:=jg1 mr;have⟨q,P,G⟩:=Rb h hc.1;have⟨b,z,o⟩:∃b:Array cm,w.heap[g]?=some (.cells b 29)/\b.size≠0:=by
  rcases h.2 with⟨F,_⟩|⟨g',S,b,F,hb,hg,ae,ad,o,O⟩
  .simp at F
  .simp only[ye,qq,jb2,and_true,true_and]at F;obtain⟨rfl,rfl⟩:=F;exact⟨b,hg,od⟩
 have M:∀Q H,(callFunc 235 #[.o v 1 1,.slice (some ⟨g,J*7,none⟩) Q H]).run prog w =.ok (.value (.bool false)) w:=λQ H=>by
  rw[run_callFunc_extern func235 oA oA oA (e:=Extern.SlicesOverlaps.overlaps #[26,26] #[4]) oA,
   Lib.run_overlaps_apart w 26 4 29 underlying26 7 (λw=>by simp[sizeOf,typeInfo,A,D]) ⟨v,0,none⟩ ⟨g,J*7,none⟩ 1 1 Q H hne 29 29 vs.length b.size (by simp[World.shape?,hv]) (by simp[World.shape?,z]) o (by simp[World.frozen?,hv]) (by simp[World.frozen?,hv])]
  rfl
 have V:w.drew.ownsRow B 29 7 (.o g (L+1) cap) (L+1) (xs++zs++q):=G;have f:∀ty l R,(Builtin.copy_ #[26,26] ty #[.slice (some ⟨g,J*7,none⟩) (N - J) l,.slice (some ⟨g,i*7,none⟩) (N - i) R]).run prog w.drew =.ok (goInt (Nat.min (N - i) (N - J))) (w.drew.setCells g (J*7) zs):=λty l R =>
  Ee w.drew ty g (J*7) (N - J) l ⟨g,i*7,none⟩ (N - i) R zs (by rw[X];simp only[Nat.min_def];split<;>omega) (λj u k=>by
   have ht:=(qS.1 k).1;have⟨x,r,m⟩:=mh h (i*7+j) ot;rw[zE od,show i*7+j - xs.length=j by omega,k]at r;cases r;rw[Addr.add_lit];exact m) (λj k=>by
   have⟨x,r,m⟩:=mh G (J*7+j) ot;show (w.cell? _).isSome;rw[m];rfl) (λj k=>G.frozenAt _) U
 have a:=lQ zs (J*7) V ot;have⟨d,n⟩:∃d,d=w.drew.setCells g (J*7) zs:=⟨_,rfl⟩;rw[<-n]at a f;have C:d.heap[v]?=some (.cells vs.toArray 29):=(a.2.block v (kj.1 hv).1 (by simpa using hne)).trans hv;have t:∀ty l,(Builtin.copy_ #[26,26] ty #[.slice (some ⟨g,i*7,none⟩) (N - i) l,.o v 1 1]).run prog d =.ok (goInt (Nat.min 1 (N - i))) (d.setCells g (i*7) vs):=λty l =>
  Ee d ty g (i*7) (N - i) l ⟨v,0,none⟩ 1 1 vs (by rw[hvs];simp only[Nat.min_def];split<;>omega) (λj u k=>by
   rw[Addr.add_lit];simp[World.cell?,C,k]) (λj k=>by
   have⟨x,r,m⟩:=mh a.1 (i*7+j) ot;rw[m];rfl) (λj k=>a.1.frozenAt _) s
 have p:=lQ vs (i*7) a.1 ot;have y:cq w (d.setCells g (i*7) vs) (some g):=K6 (K6 (kY (bf w _)) a.2) p.2;have hcut:(d.setCells g (i*7) vs).ownsRow B 29 7 (.o g (L+1) cap) (L+1) (xs++vs++zs):=by
  have s:=p.1;have T:(xs++zs++q).drop (J*7+zs.length)=[]:=qb7 ot;have r:((xs++zs++q).take (J*7)).length=J*7:=ot
  have m:((xs++zs++q).take (J*7)++zs++(xs++zs++q).drop (J*7+zs.length)).take (i*7)=xs:=by rw[T,qb0,jb0 od,jg7,jc6 od,qa6];exact jd7 W
  have e3:((xs++zs++q).take (J*7)++zs++(xs++zs++q).drop (J*7+zs.length)).drop (i*7+vs.length)=zs:=by rw[T,qb0];exact List.drop_left' od
  rw[m,e3]at s;exact s
 have Y:Hid (Sy B w g (L+1) cap (xs++vs++zs) (.returned (.o g N cap)) (d.setCells g (i*7) vs)):=⟨by rw[K],hcut,y⟩;have q1:(J:Int)<=(N:Int):=od
 have q2:¬((i:Int)=(L:Int)):=od
 have q3:((i:Int)==(L:Int))=false:=by rw[ja0];exact q2
 have q4:(i:Int)<=cap:=od
 have E:N<=cap:=od
 have c:J<=cap:=od
 have q8:(N:Int)<=cap:=od
 have q9:¬cap=J:=od
 have ah:¬cap=i:=od
 have aj:(i:Int)<=(N:Int):=od
 have ak:(i:Int)<=(L:Int):=od
 have an:(L:Int)<=cap:=od
 have aq:¬(cap:Int)<(N:Int):=od
 have ar:(J:Int)<=cap:=od
 have q5:=(vL K (xo E hc.2)).1;have q6:=(vL I (xo c hc.2)).1;have q7:=(vL I (xo c hc.2)).2;clear E c;have Z:=jh n;have⟨aa,ab⟩:=hc;clear I K hcut a p V y h n C hv z o G hi A D W X hvs P U s;go_enter func211,ntmps211;go_wp2_with (simp only[M]);go_region_law (refine Kv rfl _ _ 26 26 rfl _ _ vp vp (f _ _ _) ?_);go_wp2_with (at_builtin;refine JO rfl _ _ 26 26 rfl _ _ rfl rfl (t _ _) ?_);go_ret;exact Y
end
set_option maxHeartbeats 400000
def VP (w:cg) (k n a:Int) (s:bp) (aa:bj) (al ac:Nat) (e:Ending) (w':cg):Prop:=e =.returned (bg k n a s aa al ac none 0 0 none 0 0)/\cq w w' none
def B7 (w':cg) (R:Nat) (k n a:Int) (s:bp) (aa:bj) (al ac:Nat) (ta:bj) (tl tc:Nat) (na:bj) (nl nc:Nat):Prop :=
 w'.cell? ⟨R,0,none⟩=some (.i k)/\w'.cell? ⟨R,1,none⟩=some (.i n)/\w'.cell? ⟨R,2,none⟩=some (.i a)/\w'.cell? ⟨R,3,none⟩=some (.string s)/\w'.cell? ⟨R,4,none⟩=some (.slice aa al ac)/\w'.cell? ⟨R,5,none⟩=some (.slice ta tl tc)/\w'.cell? ⟨R,6,none⟩=some (.slice na nl nc)
def Yt{P:Program}{e:Func}{A:Act}{w W:cg}{R:Nat}{T:TypeId}{k n a:Int}{s:bp}{c:bj}{al d:Nat}(b:∀w',B7 w' R k n a s c al d none 0 0 none 0 0->(results e A.tmps).run P w' =.ok (bg k n a s c al d none 0 0 none 0 0) w')
 (hd:A.defers=[]) (hR:W.heap.size=R) (hg:cq w W none):bodyPost P e (VP w k n a s c al d) .ret A (W.alloc (.cells #[.i k,.i n,.i a,.string s,.slice c al d,.n0,.n0] T)) :=
 jb3 (b _ (cO (by rw[<-hR];exact xF W _))) hd ⟨rfl,aJ hg (aK _)⟩
def G6(k:Int)(a:bj)(l c:Nat)(w:cg):Calls prog 215 #[.i k,.slice a l c] w (VP w k 0 0 ⟨#[]⟩ a l c):=by go_enter func215,ntmps215;go_wp2_with fail;exact Yt (λb h=>by simp only[B7]at h;simp[results,results215,go_sem,h,bg]) rfl rfl (bf _ _)
def r9(k n:Int)(w:cg):Calls prog 216 #[.i k,.i n] w (VP w k n 0 ⟨#[]⟩ none 0 0):=by go_enter func216,ntmps216;go_wp2_with fail;exact Yt (λa h=>by simp only[B7]at h;simp[results,results216,go_sem,h,bg]) rfl rfl (bf _ _)
def KU{k n a:Int}{s:bp}{b:bj}{al c:Nat}{ta:bj}{tl tc:Nat}{na:bj}{d nc:Nat}(w:cg):Calls prog 190 #[.agg #[.i k,.i n,.i a,.string s,.slice b al c,.slice ta tl tc,.slice na d nc]] w λe w'=>e =.returned (.bool (decide (n=1)))/\cq w w' none:=by
 by_cases h:n=1
 .subst h;go_enter func190,ntmps190;go_wp2;go_ret;exact⟨rfl,aK _⟩
 .have f:(n==1)=false:=by simpa using h
  go_enter func190,ntmps190;go_wp2;go_ret;exact Lf.kZ (by simp[h]) (aK _)
def VQ (w:cg) (k n a:Int) (cs:Array cm) (l:Nat) (e:Ending) (w':cg):Prop:=∃g,w.heap.size<=g/\e =.returned (bg k n a ⟨#[]⟩ (some ⟨g,0,none⟩) l l none 0 0 none 0 0)/\cq w w' none/\w'.heap[g]?=some (.cells cs 29)
def QV(w:cg):Calls prog 212 #[] w (VP w 9 0 0 ⟨#[]⟩ none 0 0):=by have HM:=jh (λb=>G6 9 none 0 0 b);have d:=jh (xF w (.cells #[.i 0,.i 0,.i 0,.string ⟨#[]⟩,.n0,.n0,.n0] 29));go_enter func212,ntmps212;go_wp2_with (go_at_call 215;(with_reducible refine (HM.out _).mono ?_);rintro e f ⟨rfl,a⟩;have HB:=jh (mH d.out a);have c:=jh (aJ (aK _) a);have z:=cO HB.out;have g:=qD HB.out;clear a;unfold bg);go_wp2_with fail;refine Xe (λb h=>by simp[results,results212,go_sem,h,bg]) rfl HB.out λb a=>⟨rfl,aG c.out a (jn _)⟩
def RN{k n a:Int}{s:bp}{d:bj}{al f:Nat}{ta:bj}{tl tc:Nat}{na:bj}{g nc:Nat}(w:cg):Calls prog 214 #[.agg #[.i k,.i n,.i a,.string s,.slice d al f,.slice ta tl tc,.slice na g nc]] w (VQ w 9 0 0 #[.i k,.i n,.i a,.string s,.slice d al f,.slice ta tl tc,.slice na g nc] 1):=by have HM:=jh (λa l c p=>G6 9 a l c p);have m:=xF (w.alloc (.cells #[.i k,.i n,.i a,.string s,.slice d al f,.slice ta tl tc,.slice na g nc] 29)) (.cells #[.i 0,.i 0,.i 0,.string ⟨#[]⟩,.n0,.n0,.n0] 29);have j:=xF ((w.alloc (.cells #[.i k,.i n,.i a,.string s,.slice d al f,.slice ta tl tc,.slice na g nc] 29)).alloc (.cells #[.i 0,.i 0,.i 0,.string ⟨#[]⟩,.n0,.n0,.n0] 29)) (.cells #[.i k,.i n,.i a,.string s,.slice d al f,.slice ta tl tc,.slice na g nc] 29);simp only[qh0]at m j;replace m:=jh (aB (o:=.cells #[.i k,.i n,.i a,.string s,.slice d al f,.slice ta tl tc,.slice na g nc] 29) m);replace j:=jh j;go_enter func214,ntmps214;go_wp2_with (go_at_call 215;(with_reducible refine (HM.out _ _ _ _).mono ?_);rintro e t ⟨rfl,b⟩;have HB:=jh (mH m.out b);have q:=jh (mH j.out b);have r:=jh (aJ (aJ (aJ (aK _) (aK _)) (aK _)) b);have z:=cO HB.out;have u:=qD HB.out;clear b;unfold bg);go_wp2_with fail;refine Xe (λp h=>by simp[results,results214,go_sem,h,bg]) rfl HB.out λp b=>⟨_,od,rfl,aG r.out b od,kb q.out b oe⟩
def KG{k n a:Int}{s:bp}{b:bj}{al c:Nat}{ta:bj}{tl tc:Nat}{na:bj}{d nc:Nat}(q t:Int)(w:cg):Calls prog 247 #[.i q,.i t,.agg #[.i k,.i n,.i a,.string s,.slice b al c,.slice ta tl tc,.slice na d nc]] w (VQ w 15 t q #[.i k,.i n,.i a,.string s,.slice b al c,.slice ta tl tc,.slice na d nc] 1):=by have f:=xF (w.alloc (.cells #[.i k,.i n,.i a,.string s,.slice b al c,.slice ta tl tc,.slice na d nc] 29)) (.cells #[.i 15,.i t,.i q,.string ⟨#[]⟩,.o (w.heap.size+1+1) 1 1,.n0,.n0] 29);have e:=xF ((w.alloc (.cells #[.i k,.i n,.i a,.string s,.slice b al c,.slice ta tl tc,.slice na d nc] 29)).alloc (.cells #[.i 15,.i t,.i q,.string ⟨#[]⟩,.o (w.heap.size+1+1) 1 1,.n0,.n0] 29)) (.cells #[.i k,.i n,.i a,.string s,.slice b al c,.slice ta tl tc,.slice na d nc] 29);simp only[qh0]at f e;replace f:=jh (cO (aB (o:=.cells #[.i k,.i n,.i a,.string s,.slice b al c,.slice ta tl tc,.slice na d nc] 29) f));replace e:=jh e;go_enter func247,ntmps247;go_wp2_with fail;have h:=f.out;exact jb3 (v:=bg 15 t q ⟨#[]⟩ (some ⟨w.heap.size+1+1,0,none⟩) 1 1 none 0 0 none 0 0) (by simp[results,results247,go_sem,h,bg]) rfl ⟨_,od,rfl,aJ (aJ (aK _) (aK _)) (aK _),e⟩
def GY{ok:br}{w:cg}{x:Va}{g:Nat}{K N A:Int}{k n a:Int}{s:bp}{b:bj}{al c:Nat}{ta:bj}{tl tc:Nat}{na:bj}{e nc:Nat}(hb:w.heap[g]?=some (.cells #[.i k,.i n,.i a,.string s,.slice b al c,.slice ta tl tc,.slice na e nc] 29))(f:ok g)(h:aA ok w x (bg k n a s b al c ta tl tc na e nc))(j:bD K)(l:bD N)(iA:bD A) :
 aA ok w (.mk K N A ⟨#[]⟩ [x] [] []) (bg K N A ⟨#[]⟩ (some ⟨g,0,none⟩) 1 1 none 0 0 none 0 0):=by
 have⟨m,o,p,q,r,z5,t⟩:=cO hb;refine aA.of (args:=[x]) (types:=[]) (code:=[]) (V:=λ_=>bg k n a s b al c ta tl tc na e nc) (VT:=λ_=>.i 0) (VN:=λ_=>.i 0) oe (yb _) j l iA ⟨by simp[maxLen],λi d=>?_,λi d=>?_⟩ (dw.nil _ _ _ _) (cK.nil _ _ _ _)
 .obtain rfl:i=0:=by simpa using d
  exact⟨g,0,rfl,f,_,_,_,_,_,_,_,_,_,_,_,_,_,rfl,m,o,p,q,r,z5,t⟩
 .obtain rfl:i=0:=by simpa using d
  exact h
def qK{ok:br}{w:cg}{x:Va}{k n a:Int}{s:bp}{b:bj}{al d:Nat}{ta:bj}{tl tc:Nat}{na:bj}{j nc:Nat}(h:aA ok w x (bg k n a s b al d ta tl tc na j nc)):k=x.k/\n=x.n/\a=x.a/\s=x.s:=by have⟨c,f,l,m,g,i,V,p,o,e,_,q,_⟩:=h.inv;unfold bg at e;simp only[ja4,jc3,qb6,Value.string.injEq,Value.int.injEq,true_and,and_true]at e;exact⟨e.1,e.2.1,e.2.2.1,e.2.2.2.1⟩
def QF{ok:br}{w:cg}{x:Va}{v:cm}(h:aA ok w x v):bD x.n:=by have⟨a,b,g,i,d,f,V,k,j,e,c,l,_⟩:=h.inv;exact c.2.1
