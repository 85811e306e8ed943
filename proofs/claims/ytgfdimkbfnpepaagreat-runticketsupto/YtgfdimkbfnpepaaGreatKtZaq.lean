import Derived.Test.YtgfdimkbfnpepaaGreatKtZap
namespace Go.Proofs.YtgfdimkbfnpepaaGreat
set_option linter.all false
open Go.Proofs.Tryz
open Go.ChangeShapes Go.WideShapes Go.ChangeAt Go.RowKit
set_option maxRecDepth 100000
set_option maxHeartbeats 4000000
def zV{w:bx}{x y:Va}{u v:cg}(O:aA (λ_=>True) w x u)(P:aA (λ_=>True) w y v)(hz:(fU x).size<=20000000)(W:bx)(N:cm w W none) :
 Calls prog 197 #[u,v] W λe w'=>e =.returned (.i (gT (fU x) y))/\cm W w' none:=by
 obtain⟨Q,S,J,U,b,g,d,q,fE,s,j,n,l,rfl⟩:=O.bg;obtain⟨R,T,L,V,c,oH,f,r,sM,t,k,p,m,rfl⟩:=P.bg;have X:=jh (λA (h:cm W A none)=>DI O A (aJ N h));have HO:=jh (λY (Z:aA (λ_=>True) w (fU x) Y) A (h:cm W A none)=>zh Z P hz A (aJ N h));have E:=aJ (aK (w:=W) (.cells #[.i Q,.i S,.i J,.string U,.slice b g d,.slice q fE s,.slice j n l] 36)) (aK (.cells #[.i R,.i T,.i L,.string V,.slice c oH f,.slice r sM t,.slice k p m] 36));have H:=jh (aB (o:=.cells #[.i R,.i T,.i L,.string V,.slice c oH f,.slice r sM t,.slice k p m] 36) (jj W (.cells #[.i Q,.i S,.i J,.string U,.slice b g d,.slice q fE s,.slice j n l] 36)));have z:=jh (jj (W.alloc (.cells #[.i Q,.i S,.i J,.string U,.slice b g d,.slice q fE s,.slice j n l] 36)) (.cells #[.i R,.i T,.i L,.string V,.slice c oH f,.slice r sM t,.slice k p m] 36));simp only[yv]at z;have a:=jh E;clear O P E N;unfold bg at X HO|-;go_enter func197,ntmps197;go_wp2_with fail;generalize (W.alloc _).alloc _=G at *;have K:=λ(w':bx) (h:cm G w' none)=>And.intro (cO (l5 H.out h)) (cO (l5 z.out h));have C:cm G G none:=bM _ _;go_region_held3 (λw'=>cm G w' none) (first|with_reducible assumption|with_reducible exact fK oS) (first
  | (go_at_call 137;(with_reducible refine (X.out _ (aJ a.out (fK C))).mono ?_);rintro e w4 ⟨Y,rfl,F,B⟩;have D:=aJ (fK C) B;have I:=jh F;clear F B)
  | (go_at_call 136;(with_reducible refine (HO.out _ I.out _ (aJ a.out D)).mono ?_);rintro e w5 ⟨rfl,B⟩;have M:=aJ D B;clear B))
 go_wp2;go_ret;exact⟨rfl,aJ a M⟩
def Yq(l:an)(key:Va):kz l key<=l.length:=by unfold kz;exact (List.takeWhile_prefix _).length_le
def TH{l:an}{key:Va}(hi:VM l){i:Nat}(h:i<l.length)(c:gT (fU l[i]) key<0):i<kz l key:=by
 refine jf1 λd=>?_;have b:kz l key<l.length:=od
 have a:=PU (l:=l) (key:=key) (qn b)
 by_cases e:kz l key=i
 .subst e;exact a c
 .exact a (sj ((List.pairwise_iff_getElem.1 hi) _ _ b h od) c)
def TI{l:an}{key:Va}{i:Nat}(h:i<l.length)(a:¬gT (fU l[i]) key<0):kz l key<=i:=by refine jf1 λb=>a (Em (l:=l) (List.mem_iff_getElem?.2 ⟨i,?_⟩));rw[qb4,oc,qn h]
def Xo{i j m:Nat}(b:m=(i+j) / 2)(h:i+j<=1000000000):wrap64 (IntKind.u64.wrap (wrap64 ((i:Int)+(j:Int))) / 2)=(m:Int):=by
 have a:wrap64 ((i:Int)+(j:Int))=(i:Int)+(j:Int):=by unfold wrap64;omega
 rw[a,IntKind.wrap_u64];unfold wrap64;omega
def FnS:cg:=.func (.func 197) #[] #[]
def Gh{w:bx}{l:an}{key:Va}{la:bj}{c:Nat}{V:bt}{k2 n2 Z:Int}{s2:bo}{t:bj}{oH u:Nat}{A:bj}{sM B:Nat}{x:bj}{z y:Nat}(hl:aT (λ_=>True) w l la V)(hk:aA (λ_=>True) w key (bg k2 n2 Z s2 t oH u A sM B x z y))(hz:vsizes l<=20000000)(f:risesF l)(W:bx)(hW:cm w W none) :
 Calls prog 196 #[.slice la l.length c,.agg #[.i k2,.i n2,.i Z,.string s2,.slice t oH u,.slice A sM B,.slice x z y],FnS] W λe w'=>e =.returned (.tuple #[.i (kz l key:Nat),.bool (fJ l key)])/\cm W w' none:=by
 have f:=(rises_inc l).1 f;have ah:=kS l;have⟨HL,HK,L,HZ,Y,ad,HB,I⟩:=wj hl hk f hz hW (Yq l key) (jj W (.cells #[.i k2,.i n2,.i Z,.string s2,.slice t oH u,.slice A sM B,.slice x z y] 36)) (aK (w:=W) (.cells #[.i k2,.i n2,.i Z,.string s2,.slice t oH u,.slice A sM B,.slice x z y] 36));have aj:l.length<=20000000:=od
 clear hl hk hz f hW ah;unfold FnS;go_enter func196,ntmps196;go_wp2_with fail;generalize W.alloc _=n at *;have ae:Hid (cm n n none):=bM _ _;go_loopw [9,10] (λiv jv wr=>∃i j:Nat,iv =.i i/\jv =.i j/\i<=kz l key/\kz l key<=j/\j<=l.length/\cm n wr none) (λiv jv _=>(intOf jv).toNat - (intOf iv).toNat)
 case atStart=>exact⟨0,l.length,rfl,rfl,zE _,ad,qS _,ae⟩
 case round =>
  obtain⟨i,j,rfl,rfl,h1,h2,h3,hg⟩:=hrel;have⟨D,H1,H2,H3⟩:=JT hg h1 h2 h3
  by_cases T:i<j
  .have q1:(i:Int)<(j:Int):=by omega
   have⟨m,hm⟩:∃m,m=(i+j) / 2:=⟨_,rfl⟩;have U:i<=m:=od
   have X:m<j:=od
   have g:m<l.length:=od
   have E:=jh U;have s:=jh X;have q2:(m:Int)<(l.length:Int):=od
   have q3:(0:Int)<=(m:Int):=od
   have⟨b,o,eb,_,kk,kn,aq,ss,ab,bl,bq,tb,ul,uc,nb,ml,mc,P,k⟩:=HL.out.2.1 m g;have H:=HL.out.2.2 m g;rw[P]at H;subst eb;have C:Hid (C7 w b (o+m*7) kk kn aq ss ab bl bq tb ul uc nb ml mc):=k;have⟨a,M,J⟩:=we (λO (h:cm n O none)=>zV H HK (km (Bu _) (km (fO (zd g)) HZ)) O (aJ Y (aJ I h))) (λ(hp:gT (fU l[m]) key<0)=>TH L g hp) (λ(hp:¬gT (fU l[m]) key<0)=>TI g hp);have K:=λ(w':bx) (h:cm n w' none)=>And.intro (cO (l5 HB h)) (C.keep (aJ Y (aJ I h)) ot);unfold C7 at K;unfold bg at a;generalize gT (fU l[m]) key=r at a M J;clear H P k h1 h2 h3 U X g T;have ai:Hid (((i:Int)+(j:Int)) / 2=(m:Int)):=(by omega:((i:Int)+(j:Int)) / 2=(m:Int));have aa:=jh hm;clear hm;have HV:=jh (Xo aa (by have:=H3.out;have:=E.out;have:=s.out;omega:i+j<=1000000000))
   go_upto_region 5 with (fail)
   simp only[HV.out];have d:=D.out;go_region_held3 (λw'=>cm n w' none) (first|with_reducible assumption|with_reducible exact fK oS)
    ((go_at_call 197;(with_reducible refine (a.out _ (fK d)).mono ?_);rintro e w5 ⟨rfl,Q⟩;have G:=aJ (fK d) Q;clear Q))
   have N:=jh G
   by_cases hr:r<0
   .have HR:=jh hr;go_wp2;go_roundw
    case rel=>exact⟨m+1,j,OS,rfl,M HR,H2,H3,N⟩
    case measure =>
     have:=E.out;have:=s.out;simp[intOf];omega
   .have ar:¬r<0:=hr;have HR:=jh hr;go_wp2;go_roundw
    case rel=>exact⟨i,m,rfl,rfl,H1,J (by have:=HR.out;omega),km (Nat.le_of_lt s) H3,N⟩
    case measure =>
     have:=E.out;have:=s.out;simp[intOf];omega
  .have q1:¬(i:Int)<(j:Int):=by omega
   have R:i=kz l key:=od
   have q:=jh R;clear h1 h2 h3 T R
   by_cases v:i<l.length
   .have q2:(i:Int)<(l.length:Int):=by omega
    have q3:(0:Int)<=(i:Int):=od
    have⟨b,o,eb,_,kk,kn,aq,ss,ab,bl,bq,tb,ul,uc,nb,ml,mc,P,k⟩:=HL.out.2.1 i v;have H:=HL.out.2.2 i v;rw[P]at H;subst eb;have C:Hid (C7 w b (o+i*7) kk kn aq ss ab bl bq tb ul uc nb ml mc):=k;have a:=jh (λO (h:cm n O none)=>zV H HK (km (Bu _) (km (fO (zd v)) HZ)) O (aJ Y (aJ I h)));have p:Hid (fJ l key=decide (gT (fU l[i]) key=0)):=by show _=_;unfold fJ;rw[<-q.out,qn v]
    have K:=λ(w':bx) (h:cm n w' none)=>And.intro (cO (l5 HB.out h)) (C.out.keep (aJ Y.out (aJ I.out h)) ot);unfold C7 at K;unfold bg at a;generalize gT (fU l[i]) key=r at a p;clear H P k;have d:=D.out;go_wp2_with fail;go_region_held3 (λw'=>cm n w' none) (first|with_reducible assumption|with_reducible exact fK oS)
     ((go_at_call 197;(with_reducible refine (a.out _ (fK d)).mono ?_);rintro e w5 ⟨rfl,Q⟩;have G:=aJ (fK d) Q;clear Q))
    go_wp2_with fail;go_ret2;exact⟨by rw[p.out,q.out];rfl,aJ I G⟩
   .have q2:¬(i:Int)<(l.length:Int):=by omega
    have p:Hid (fJ l key=false):=by show _=_;unfold fJ;rw[<-q.out,jc5 od]
    have d:=D.out;go_wp2_with fail;refine ja7 (S:=λw'=>cm n w' none) oA (fK d) (λF=>?_);refine fG 0 35 ?_;refine fG 1 36 ?_;refine fG 2 37 ?_;refine fG 3 38 ?_;refine fG 4 39 ?_;refine Wl 5 40 ?_;refine Wl 6 41 ?_;refine Wl 7 42 ?_;refine Wl 8 43 ?_;refine Wl 9 44 ?_;refine Wl 10 45 ?_;refine Wl 11 46 ?_;refine Wl 12 47 ?_;refine fG 13 48 ?_;refine fG 14 6 ?_;refine fG 15 7 ?_;refine qf4 oA ?_ _;go_wp2_with fail;go_ret2;exact⟨by rw[p.out,q.out];rfl,aJ I F⟩
def Kq{w:bx}{l:an}{key:Va}{v:bj}{c:Nat}{V:bt}{u x p:Int}{y:bo}{b:bj}{oH d:Nat}{k:bj}{sM m:Nat}{f:bj}{j g:Nat}(s:aT (λ_=>True) w l v V)(hk:aA (λ_=>True) w key (bg u x p y b oH d k sM m f j g))(t:vsizes l<=20000000)(a:risesF l)(W:bx)(r:cm w W none) :
 Calls prog 164 #[.slice v l.length c,.agg #[.i u,.i x,.i p,.string y,.slice b oH d,.slice k sM m,.slice f j g]] W λe w'=>e =.returned (.tuple #[.i (kz l key:Nat),.bool (fJ l key)])/\cm W w' none:=by
 have n:=jh (λo (h:cm W o none)=>Gh (c:=c) s hk t a o (aJ r h));unfold FnS at n;clear s hk t a r;go_enter func164,ntmps164;go_wp2_with ((go_at_call 196;(with_reducible refine (n.out _ (aK _)).mono ?_);rintro e A ⟨rfl,q⟩;have z:=jh (aJ (aK _) q);clear q));go_ret2;exact⟨rfl,z.out⟩
set_option maxHeartbeats 1000000
def uG{ok:br}{B:Nat}{w:bx}{v:cg}{l:an}{us:bk}(r:dF B w v us)(N:us.length=l.length)(h:∀(i:Nat) (x:Va) (u:cg),l[i]?=some x->us[i]?=some u->aA ok w x u)(t:∀g,v.ownBlock=some g->ok g)(O:l.length<=maxLen) :
 ∃(a:bj) (c:Nat) (V:bt),v =.slice a l.length c/\l.length<=c/\aT ok w l a V:=by
 have d:∀i (f:i<l.length),∃u,us[i]?=some u/\aA ok w l[i] u:=λi f=>⟨us[i],qn od,h i l[i] us[i] (qn f) (qn od)⟩;have I:∀u∈us,(nodeCells u).length=7:=λu Q=>by obtain⟨i,f,rfl⟩:=ub Q;have⟨u,e,h⟩:=d i od;rw[qn f]at e;simp at e;have⟨k,n,p,s,z,al,A,F,tl,G,C,E,D,m⟩:=h.bg;rw[e,m];rfl
 unfold dF at r;rcases r.2 with⟨rfl,S⟩|⟨g,o,H,rfl,J,T,P,K,L,y⟩
 .have q:l.length=0:=by omega
  exact⟨none,0,λ_=>.i 0,by rw[q],od,od,λi f=>od,λi f=>od⟩
 .refine⟨some ⟨g,0,none⟩,o,λi=>(us[i]?).getD (.i 0),by rw[N],od,O,λi f=>?_,λi f=>?_⟩
  .have⟨u,e,h⟩:=d i f;have⟨k,n,p,s,z,al,A,F,tl,G,C,E,D,m⟩:=h.bg;have b:∀j x,j<7->(nodeCells u)[j]?=some x->w.cell? ⟨g,0+i*7+j,none⟩=some x:=by
    intro j x M R;have:=qb0 r (g:=g) rfl (i*7+j) x (by rw[flatV_get us I i j u e M];exact R);rw[gI,<-qd6]at this;exact this
   rw[m]at b;exact⟨g,0,rfl,t g rfl,k,n,p,s,z,al,A,F,tl,G,C,E,D,by show (us[i]?).getD _=_;rw[e];exact m,b 0 _ od rfl,b 1 _ od rfl,b 2 _ od rfl,b 3 _ od rfl,b 4 _ od rfl,b 5 _ od rfl,b 6 _ od rfl⟩
  .have⟨u,e,h⟩:=d i f;show aA ok w l[i] ((us[i]?).getD _);rw[e];exact h
structure nI (O:br) (W w:bx) (v:cg) (l:an) (us:bk):Prop where
 own:dF W.heap.size w v us
 len:us.length=l.length
 lies:∀(i:Nat) (x:Va) (u:cg),l[i]?=some x->us[i]?=some u->aA (λb=>¬O b) W x u
def nI.more{O:br}{W w w':bx}{v v':cg}{l l2:an}{us ns:bk}(h:nI O W w v l us)(g:dF W.heap.size w' v' (us++ns))(f:ns.length=l2.length)(hn:∀(i:Nat) (x:Va) (u:cg),l2[i]?=some x->ns[i]?=some u->aA (λb=>¬O b) W x u):nI O W w' v' (l++l2) (us++ns):=by
 have a:=h.len;refine⟨g,by simp[a,f],λi x u d c=>?_⟩
 by_cases e:i<l.length
 .exact h.lies i x u (by rw[jz e]at d;exact d) (by rw[jz od]at c;exact c)
 .exact hn (i - l.length) x u (by rw[ju od]at d;exact d) (by rw[ju od,a]at c;exact c)
def XZ (O:br) (W:bx) (l:an) (e:Ending) (w':bx):Prop:=∃a c V,e =.returned (.slice a l.length c)/\l.length<=c/\aT (λb=>¬O b) w' l a V/\cm W w' none
def nI.done{O:br}{W w:bx}{v:cg}{l:an}{us:bk}(h:nI O W w v l us)(f:cm W w none)(o:∀b,W.heap.size<=b->¬O b)(q:l.length<=maxLen):XZ O W l (.returned v) w:=by
 obtain⟨a,c,V,rfl,m,n⟩:=uG h.own h.len (λi x u s r=>(dB.grow (O:=O) f).lies (h.lies i x u s r)) (λg e=>o g (by
  rcases h.own.2 with⟨d,_⟩|⟨t,j,k,d,p,_⟩
  .rw[d]at e;cases e
  .rw[d]at e;cases e;exact p)) q
 exact⟨a,c,V,rfl,m,n,f⟩
open Pe
section
variable {ok:br}{w:bx}{x y:Va}
def BK{k:Int}{l:an}(h:bD k)(a:okVs l):okV (mkV k l):=⟨⟨h,i64,i64,ov⟩,a,trivial,trivial⟩
def oN{k n:Int}(h:bD k)(hn:bD n):okV (aW k n):=⟨⟨h,hn,i64,ov⟩,trivial,trivial,trivial⟩
def si(h:okV x)(k:okV y):okV (aY x y):=BK i64 ⟨h,k,trivial⟩
def pO(h:okV x):okV (aV x):=BK i64 ⟨h,trivial⟩
def ok_none:okV noneV:=BK i64 trivial
def mP(b:Bool):okV (aZ b):=oN i64 (by cases b<;>exact i64)
def VC{k n a:Int}{s:bo}{i j q:Nat}{al:an}{ty:ao}{co:aE}(g:i=7\/al=[])(l:j=2\/ty=[])(m:q=5\/co=[])(v:cg)(h:iZ (λ_=>none) ok w (.of (.agg [.d (.v (.i k)),.d (.v (.i n)),.d (.v (.i a)),.d (.v (.string s)),.d (.s i (vasD al)),.d (.s j (tysD ty)),.d (.s q (ndsD co))])) v):iZ (λ_=>none) ok w (.of (pF (.mk k n a s al ty co))) v:=by
 have⟨x,e,o⟩:=h
 match x,o with
 | [y,z,A,B,C,D,E],⟨p,r,t,u,b,c,f,_⟩ =>
  refine⟨_,e,p,r,t,u,?_,?_,?_,trivial⟩
  .rcases g with rfl|rfl
   .exact b
   .exact gG b
  .rcases l with rfl|rfl
   .exact c
   .exact gG c
  .rcases m with rfl|rfl
   .exact f
   .exact gG f
def Pe.Holds.val{f:FuncId}{args:List A1}{k n a:Int}{s:bo}{i j q:Nat}{al:an}{ty:ao}{co:aE}(h:Hd ⟨f,args,.of (.agg [.d (.v (.i k)),.d (.v (.i n)),.d (.v (.i a)),.d (.v (.string s)),.d (.s i (vasD al)),.d (.s j (tysD ty)),.d (.s q (ndsD co))])⟩)(b:i=7\/al=[])(c:j=2\/ty=[])(e:q=5\/co=[]):Hd ⟨f,args,.of (pF (.mk k n a s al ty co))⟩:=h.conv (λ_ _ _ h=>h) (λok w v=>VC b c e v)
end
section
variable {x y:Va}
def EA(k:Int)(l:an):Hd ⟨160,[iA k,qi l],.of (pF (mkV k l))⟩:=Holds.val (i:=7) (j:=0) (q:=0) (al:=l) (ty:=[]) (co:=[]) (aF func160 []) (.inl rfl) (.inr rfl) (.inr rfl)
def EB(k:Int):Hd ⟨160,[iA k,nilA],.of (pF (mkV k []))⟩:=Holds.val (i:=0) (j:=0) (q:=0) (al:=[]) (ty:=[]) (co:=[]) (aF func160 []) (.inr rfl) (.inr rfl) (.inr rfl)
def eU(k n:Int):Hd ⟨161,[iA k,iA n],.of (pF (aW k n))⟩:=Holds.val (i:=0) (j:=0) (q:=0) (al:=[]) (ty:=[]) (co:=[]) (aF func161 []) (.inr rfl) (.inr rfl) (.inr rfl)
def Pq(s:bo):Hd ⟨173,[.one (.d (.v (.string s)))],.of (pF (di s))⟩:=Holds.val (i:=0) (j:=0) (q:=0) (al:=[]) (ty:=[]) (co:=[]) (aF func173 []) (.inr rfl) (.inr rfl) (.inr rfl)
def H_none:Hd ⟨157,[],.of (pF noneV)⟩:=aF func157 [⟨_,EB 9⟩]
def mU(x:Va):Hd ⟨159,[pF x],.of (pF (aV x))⟩:=by have⟨k,n,a,s,r,t,c⟩:=x;exact aF func159 [⟨_,EA 9 [.mk k n a s r t c]⟩]
def pX(x y:Va):Hd ⟨158,[pF x,pF y],.of (pF (aY x y))⟩:=by have⟨k,n,a,s,r,t,c⟩:=x;have⟨e,f,b,h,g,i,d⟩:=y;exact aF func158 [⟨_,EA 11 [.mk k n a s r t c,.mk e f b h g i d]⟩]
def AQ(a n:Int)(x:Va):Hd ⟨207,[iA a,iA n,pF x],.of (pF (aM a n x))⟩:=by have⟨k,n,a,s,r,t,c⟩:=x;exact Holds.val (i:=7) (j:=0) (q:=0) (al:=[.mk k n a s r t c]) (ty:=[]) (co:=[]) (aF func207 []) (.inl rfl) (.inr rfl) (.inr rfl)
def pJ(b:Bool):Hd ⟨172,[bA b],.of (pF (aZ b))⟩:=by
 cases b
 .exact aF func172 [⟨_,eU 2 0⟩]
 .exact aF func172 [⟨_,eU 2 1⟩]
def wX(x:Va):Hd ⟨117,[pF x],aQ (kJ x)⟩:=by have⟨k,n,a,s,r,t,c⟩:=x;exact aF func117 []
def Tc(d:okV x)(f:okV y)(g:x.size<=20000000):Hd ⟨136,[pF x,pF y],.of (iA (gT x y))⟩:=⟨rM func136,λok w i h=>by
 match i,h with
 | [u,v],⟨a,b,_⟩ =>
  refine (zh ((mR d a).ae (λ_ _ _=>trivial)) ((mR f b).ae (λ_ _ _=>trivial)) g w (bM _ _)).mono ?_;rintro e j ⟨rfl,c⟩;exact⟨c,_,rfl,fI.v _⟩⟩
def Te(c:okV x)(d:okV y)(e:x.size<=20000000):Hd ⟨16,[pF x,pF y],aQ (Ij x y)⟩:=jM (bK func16) λok w f h=>by
 match f,h with
 | [u,v],⟨a,b,_⟩=>exact Oo ((mR c a).ae (λ_ _ _=>trivial)) ((mR d b).ae (λ_ _ _=>trivial)) e w (bM _ _)
def OG (r:Int×Int):AV:=.rz [iA r.1,iA r.2]
def EC{f:FuncId}{args:List A1}{r:Int×Int}(a:∀(args:Array cg) (w:bx),(callFunc f args).run prog w =.ok (.enter f args) w)(h:∀ok w vs,dU (gm (λ_=>none) ok w) args vs->Calls prog f vs.toArray w (P2 w r)):Hd ⟨f,args,OG r⟩ :=
 ⟨⟨a,rfl⟩,λok w vs b=>(h ok w vs b).mono (by rintro e c ⟨rfl,rfl⟩;exact⟨bM _ _,_,rfl,_,rfl,fI.v _,fI.v _,trivial⟩)⟩
def yD{ok:br}{w:bx}{vs:bk}{a b:Int}(h:dU (gm (λ_=>none) ok w) [iA a,iA b] vs):vs=[.i a,.i b]:=by
 match vs,h with
 | [u,v],⟨c,d,_⟩=>rw[bW c,bW d]
def VI(a b:Int):Hd ⟨200,[iA a,iA b],OG (addN a b)⟩:=EC (bK func200) λok w c h=>by rw[yD h];exact Lc a b w
def X8(a b:Int):Hd ⟨201,[iA a,iA b],OG (Iu a b)⟩:=EC (bK func201) λok w c h=>by rw[yD h];exact Vo a b w
def X6(a b:Int)(c:kE a)(hb:kE b):Hd ⟨202,[iA a,iA b],OG (mulN a b)⟩:=EC (bK func202) λok w d h=>by rw[yD h];exact Ur a b w c hb
def X3(a:Int):Hd ⟨167,[iA a],OG (EJ a)⟩:=EC (bK func167) λok w c h=>by
 match c,h with
 | [u],⟨b,_⟩=>rw[bW b];exact TA a w
def Pd(a b:Int)(f:kE a)(hb:kE b):Hd ⟨199,[iA a,iA b],.rz [iA (if b=0 then 0 else a / b),iA (if b=0 then 0 else a % b),iA (if b=0 then 6 else 0)]⟩:=⟨rM func199,λok w i h=>by
 rw[yD h];refine (Qi a b w f hb).mono ?_;rintro e j ⟨q,r,g,rfl,c,d,n,rfl⟩;refine⟨iW (bM _ _) ,_,rfl,_,rfl,?_⟩
 by_cases e:b=0
 .obtain⟨rfl,rfl,rfl⟩:=c e;simp only[if_pos e];exact⟨fI.v _,fI.v _,fI.v _,trivial⟩
 .obtain⟨rfl,rfl,rfl⟩:=d e;simp only[if_neg e];exact⟨fI.v _,fI.v _,fI.v _,trivial⟩⟩
def FN{l:an}(j:okVs l)(o:okV y)(hz:vsizes l<=20000000)(m:risesF l):Hd ⟨164,[qi l,pF y],.rz [iA (kz l y:Nat),bA (fJ l y)]⟩:=⟨rM func164,λok w p h=>by
 match p,h with
 | [u,v],⟨d,f,_⟩ =>
  obtain⟨a,c,V,rfl,t,g⟩:=lV j (.inl rfl) d;have b:=mR o f;obtain⟨k,n,a,s,q,al,r,B,tl,C,x,A,z,rfl⟩:=b.bg;refine (Kq (g.ae (λ_ _ _=>trivial)) (b.ae (λ_ _ _=>trivial)) hz m w (bM _ _)).mono ?_;rintro e D ⟨rfl,i⟩;exact⟨i,_,rfl,_,rfl,fI.v _,fI.v _,trivial⟩⟩
def Pj{t:Tr}(n:okN t)(m:fu t):Hd ⟨143,[ndA t],.rz [tyA (kreadT t),iA 0]⟩:=⟨rM func143,λok w o h=>by
 match o,h with
 | [u],⟨f,_⟩ =>
  refine (Bv ((oK n f).ae (λb i _=>i))).mono ?_;rintro e q ⟨l,⟨_,u,rfl,g⟩|⟨j,_⟩⟩
  .obtain⟨hk,a,c,rfl,d⟩:=qI (g.ae (ok':=λb=>ok b\/w.heap.size<=b) (λb _ h=>.inr h));refine⟨l,_,rfl,_,rfl,?_,fI.v _,trivial⟩;generalize kreadT t=T at d|-;have⟨k,p⟩:=T;exact⟨_,rfl,fI.v _,d,trivial⟩
  .exact absurd (m.symm.trans j) ov⟩
def tK{t:Tr}(b:okN t)(a:fu t):Hd ⟨166,[ndA t],.of (tyA (kreadT t))⟩:=by have:=Pj b a;generalize kreadT t=T at this|-;have⟨k,c⟩:=T;have⟨e,f,g,h,d⟩:=t;exact aF func166 [⟨_,this⟩]
def Pv{T:Ty}{t:Tr}(a:okT T)(b:okN t)(c:t.size<=4611686018427387903)(h:jf T t=some x):Hd ⟨113,[tyA T,ndA t],.rz [pF x,iA 0]⟩:=by have:=WI a b c;rw[h]at this;exact this
end
def QD(y:Va):lamsF y=((!decide (y.k=14)||jG y)&&lamsFs y.args):=by cases y;rw[lamsF];rfl
mutual
def lam2:Va->Bool
 | .mk k n a s args types code=>(!decide (k=14)||decide (types.length=2))&&lam2s args
def lam2s:an->Bool
 | []=>true
 | x::xs=>lam2 x&&lam2s xs
end
def LC(y:Va):lam2 y=((!decide (y.k=14)||decide (y.types.length=2))&&lam2s y.args):=by cases y;rw[lam2];rfl
def lam2s_all:∀l:an,lam2s l=l.all lam2
 | []=>rfl
 | x::l=>by rw[lam2s,lam2s_all l];rfl
def sameTs_length:∀{a b:ao},sameTs a b->a.length=b.length
 | [],[],_=>rfl
 | [],_::_,h=>by simp[sameTs]at h
 | _::_,[],h=>by simp[sameTs]at h
 | _::a,_::b,h=>by simp only[sameTs,qu]at h;simp[sameTs_length h.2]
def Ui(N:Nat):∀(x:Va) (T:Ty),x.size<=N->(∃d,j5 d T)->hasV x T->lam2 x:=by
 induction N with
 | zero=>intro x T h;have:=qZ x;omega
 | succ N B =>
  intro x T E e h;have l:=e;rw[Lu]at h
  cases a:partsOf T x with
  | none=>rw[a]at h;simp at h
  | some ps =>
   rw[a]at h;simp only[qu]at h;have⟨⟨f,m⟩,_⟩:=h;have b:=yh e f a;unfold partsOf at a
   cases j:bS T x with
   | none=>rw[j]at a;simp at a
   | some g =>
    rw[j]at a;simp only[qh0,qk]at a;have q:=rE j;have A:=eP x;rw[LC,lam2s_all];simp only[qu];refine⟨?_,kB.2 λy s=>?_⟩
    .have⟨d,e⟩:=l;unfold eX at f;simp only[qu,kj]at f;have⟨⟨⟨⟨⟨z,_⟩,_⟩,_⟩,n⟩,_⟩:=f
     by_cases c:x.k=14
     .have p:T.t=14:=by rw[<-z];exact c
      unfold eZ at n;rw[oa,if_pos p]at n;have C:=sameTs_length n;have o:=(ug e).1;rw[p]at o;have u:bT 14=2:=rfl;rw[u]at o;rw[qg0 (show x.types.length=2 by omega)];simp
     .rw[qa6 c];rfl
    .obtain⟨i,F,rfl⟩:=ub s;have w:i<g.length:=by omega
     have r:(g[i],x.args[i])∈ps:=by
      rw[<-a];have : (g.zip x.args)[i]'oB=(g[i],x.args[i]):=ot
      rw[<-this];exact zd _
     have v:=kB.1 m _ r;have D:=fO s;exact B _ _ od (b _ r) v
def Fp (x:Va):Bool:=!decide (x.k=14)||jG x
def lamsFs_push:∀l:an,lamsFs l=(l.all Fp&&(pushS l).all lamsFs)
 | []=>rfl
 | x::l=>by
  have e:lamsF x=(Fp x&&lamsFs x.args):=QD x;rw[lamsFs,lamsFs_push l,e,pushS,qe6,xf];have : lamsFs x.args=(if x.args.length=0 then []else [x.args]).all lamsFs:=by
   split
   .rename_i h;rw[jx h];rfl
   .simp
  rw[this];generalize Fp x=a,l.all Fp=b,(if x.args.length=0 then []else [x.args]).all lamsFs=c,(pushS l).all lamsFs=d;cases a<;>cases b<;>cases c<;>rfl
def okL (l:an):Prop:=∀x∈l,okV x/\lam2 x/\x.size<=6000000
def aai{x:Va}(h:okV x/\lam2 x/\x.size<=6000000):okL x.args:=λy a=>by have⟨c,b,d⟩:=h;have e:=fO a;have f:=eP x;rw[LC,lam2s_all,qu]at b;exact⟨okVs_at.1 (by cases x;exact c.2.1) y a,kB.1 b.2 y a,od⟩
def okL_push:∀{l:an},okL l->∀q∈pushS l,okL q
 | [],_,q,a=>by cases a
 | x::l,h,q,a=>by
  rw[pushS]at a;rcases xb.1 a with a|a
  .split at a
   .cases a
   .rw[js.1 a];exact aai (h x ot)
  .exact okL_push (λy b=>h y (by simp[b])) q a
def fwQ (k l:Nat) (es:List bd):St:=[((0,5),.of (.one (.g k 1 l))),((k+1,0),.vT 28 1 es)]
def fwS (k l:Nat) (es:List bd) (L:an) (j:Nat):St:=fwQ k l es++[((0,30),.of (qi L)),((0,31),lW (vasD L).length),((0,32),.of (jA j))]
abbrev fwN:St:=[((0,4),.of fA)]
abbrev fwI (p:St) (ex:Nat) (q:St):Prop:=vO prog f33.ntmps ⟨kX f33 1,p,ex,q⟩
abbrev fwO (p:St) (ex:Nat) (q:St):Prop:=vO prog f33.ntmps ⟨kX f33 0,p,ex,q⟩
section
variable {k l j:Nat}{es:List bd}{L:an}{M:List an}
def aay{x:Va}{ex:Nat}{q:St}(hk:k=3000016\/k=3000052)(z:L[j]?=some x)(S:L.length<=20000000)(w:∀p∈psO l es M x.args,p)(r:okV x/\lam2 x/\x.size<=6000000) :
 (Fp x=false->fwI (fwS k l es L j) 1 fwN)/\(Fp x->fwI (if x.args.length=0 then fwS k l es L (j+1)else fwS 3000052 (l+1) (bZ (M++[x.args])) L (j+1)) ex q->fwI (fwS k l es L j) ex q):=by
 have R:=(qv.1 z).1;have A:=is_lt (a:=Int.ofNat j) (b:=((vasD L).length:Int)) OF;have B:=PT z;have Q:mD (lW (IntKind.i64.wrap (Int.ofNat j+1))) (jA (j+1)):=yY (zF ot oB oB);have⟨t,i,P⟩:=r;have g:x.k=14->Hd ⟨57,[pF x],aQ (jG x)⟩:=λf=>by rw[LC,qg0 f,qu]at i;have:=eP x;exact S9 (by simpa using i.1) t od
 unfold Fp;generalize jG x=b at *;have⟨v,H,E,J,n,I,D⟩:=x;simp only[Va.k]at *;have F:=λ{p2:St} (h:fwI p2 ex q) (O:Hints) (K:HL) {N:List Prop} (r:∀p∈N,p) o c=>LG ([(33,bA true),(34,.one (.e (vaD (.mk v H E J n I D)) 0))]++O++[(53,jA (j+1))]) K h (al A (al B (oH r (al Q al0)))) (pre:=fwS k l es L j) (h:=o) (hc:=c)
 by_cases f:v=14
 .subst f;have g:=g rfl
  cases b with
  | false =>
   have G:=λo c=>(xQ (e:=0) [(33,bA true),(34,.one (.e (vaD (.mk 14 H E J n I D)) 0))] [⟨_,g⟩] (al A (al B al0)) (h:=o) (hc:=c):fwI (fwS k l es L j) 1 fwN);exact⟨λ_=>by rcases hk with rfl|rfl<;>exact G oA oA,λh=>by cases h⟩
  | true =>
   refine⟨λh=>(by cases h),λ_ h=>?_⟩;rcases n with _|⟨y,m⟩
   .rcases hk with rfl|rfl<;>exact F h [] [⟨_,g⟩] al0 oA oA
   .have u:=is_lt (a:=0) (b:=((vasD (y::m)).length:Int)) (by rw[qY];simp);rcases hk with rfl|rfl<;>exact F h [(47,bA true),(2000052,.one (.d (.s 1 (bZ (M++[y::m])))))] [⟨_,g⟩] (al u w) oA oA
 .have C:jJ (decide (v=14)) false:=eT (qa6 f);refine⟨λh=>(by simp[f]at h),λ_ h=>?_⟩;rcases n with _|⟨y,m⟩
  .rcases hk with rfl|rfl<;>exact F h [(38,fA)] [] (al C al0) oA oA
  .have u:=is_lt (a:=0) (b:=((vasD (y::m)).length:Int)) (by rw[qY];simp);rcases hk with rfl|rfl<;>exact F h [(38,fA),(47,bA true),(2000052,.one (.d (.s 1 (bZ (M++[y::m])))))] [] (al C (al u w)) oA oA
def aad(y:L.length<=20000000)(z:okL L):∀(i j k l:Nat) (es:List bd) (M:List an),j+i=L.length->(k=3000016\/k=3000052)->es.take l=bZ M->M.length=l->l<=es.length->l+i<=50000000 ->
 ((L.drop j).all Fp/\∃m n d,(m=3000016\/m=3000052)/\d.take n=bZ (M++pushS (L.drop j))/\(M++pushS (L.drop j)).length=n/\fwI (fwS k l es L j) 4 (fwQ m n d))\/((L.drop j).all Fp=false/\fwI (fwS k l es L j) 1 fwN)
 | 0,j,k,l,es,M,I,s,u,v,w,H=>by have J:=wH (a:=Int.ofNat j) (b:=((vasD L).length:Int)) OF;rw[qf1 od];refine .inl ⟨rfl,k,l,es,s,by simpa[pushS]using u,by simpa[pushS]using v,?_⟩;have F:=λo c=>(xQ (e:=3) [(33,fA)] [] (al J al0) (h:=o) (hc:=c):fwI (fwS k l es L j) 4 (fwQ k l es));rcases s with rfl|rfl<;>exact F oA oA
 | i+1,j,k,l,es,M,I,s,u,v,w,H=>by
  have g:j<L.length:=od
  rw[yW g,pushS];have f:=λt q=>aay (ex:=t) (q:=q) s (qn g) y (aaS (L:=L[j].args) v u w od) (z _ (zd g));generalize L[j]=x at *;rw[xf]
  cases G:Fp x with
  | false=>exact .inr ⟨rfl,(f 0 []).1 G⟩
  | true =>
   have f:=λt q=>(f t q).2 G;rw[qh5]
   by_cases E:x.args.length=0
   .have h:=aad y z i (j+1) k l es M od s u v w od;simp only[if_pos E]at f|-;rcases h with⟨p,m,n,d,A,B,C,r⟩|⟨p,r⟩
    .exact .inl ⟨p,m,n,d,A,B,C,f _ _ r⟩
    .exact .inr ⟨p,f _ _ r⟩
   .have h:=aad y z i (j+1) 3000052 (l+1) (bZ (M++[x.args])) (M++[x.args]) od (.inr rfl) (qc0 vx) oB vx od;simp only[if_neg E]at f|-;rw[ur]at h;rcases h with⟨p,m,n,d,A,B,C,r⟩|⟨p,r⟩
    .exact .inl ⟨p,m,n,d,A,B,C,f _ _ r⟩
    .exact .inr ⟨p,f _ _ r⟩
def fw_out:∀(N k l:Nat) (es:List bd) (M:List an),nD M<=N->N<=20000001->(k=3000016\/k=3000052)->es.take l=bZ M->M.length=l->(∀q∈M,okL q)->(M.all lamsFs/\fwO (fwQ k l es) 2 [])\/(M.all lamsFs=false/\fwO (fwQ k l es) 1 fwN)
 | N,k,l,es,M,hN,H,hk,G,v,m=>by
  rcases jh7 M with rfl|⟨d,L,rfl⟩
  .obtain rfl:l=0:=v.symm;have F:=λo c=>(xQ (e:=1) [] [] al0 (h:=o) (hc:=c):fwO (fwQ k 0 es) 2 []);exact .inl ⟨rfl,by rcases hk with rfl|rfl<;>exact F oA oA⟩
  rw[ka0]at *;rw[gQ,qH]at hN;have P:0<N:=od
  obtain rfl:l=d.length+1:=by simp at v;omega
  have Q:=ve d;have K:=kS L;have O:=wM L;have⟨w,I,J⟩:=aaU (k:=k) rfl G od;have z:=λ{ps:List Prop} (h:∀p∈ps,p)=>wI (S:=fwS k d.length es L 0) (q:=kX f33 1=kX f33 1) rfl h;have E:(d++[L]).all lamsFs=(L.all Fp&&(d++pushS L).all lamsFs):=by rw[qe6,qe6,xf,ka6,Bool.and_true,lamsFs_push];generalize d.all lamsFs=a,L.all Fp=b,(pushS L).all lamsFs=c;cases a<;>cases b<;>cases c<;>rfl
  rw[E];rcases aad (L:=L) od (m L ot) L.length 0 k d.length es d od hk I rfl J od with⟨j,y,A,f,s,B,C,t⟩|⟨j,t⟩
  .rw[qg4]at j B C;rw[j,qh5];have n:=fw_out (N - 1) y A f (d++pushS L) (by rw[gQ];omega) od s B C (λq g=>by
    rcases xb.1 g with g|g
    .exact m q (by simp[g])
    .exact okL_push (m L ot) q g)
   have F:=λ{ex:Nat} {q:St} (n:fwO (fwQ y A f) ex q) o c=>aaf (tdT 5 k d.length L) [_] (by intro x i;rw[js]at i;subst i;exact t) [] n (oH w (z al0)) (pre:=fwQ k (d.length+1) es) (h:=o) (hc:=c);rcases n with⟨u,r⟩|⟨u,r⟩
   .exact .inl ⟨u,by rcases hk with rfl|rfl<;>rcases s with rfl|rfl<;>exact F r oA oA⟩
   .exact .inr ⟨u,by rcases hk with rfl|rfl<;>rcases s with rfl|rfl<;>exact F r oA oA⟩
  .rw[qg4]at j;rw[j];have F:=λo c=>(aa7 (e:=0) (tdT 5 k d.length L) [_] (by intro x i;rw[js]at i;subst i;exact t) [] (oH w (z al0)) (h:=o) (hc:=c):fwO (fwQ k (d.length+1) es) 1 fwN);exact .inr ⟨rfl,by rcases hk with rfl|rfl<;>exact F oA oA⟩
termination_by N=>N
decreasing_by all_goals omega
end
def VJ{T:Ty}{x:Va}(i:okT T)(h:okV x)(hz:x.size<=6000000):Hd ⟨33,[tyA T,pF x],aQ (qC T x)⟩:=by
 have f:=X4 i h od;unfold qC
 cases g:pY T x with
 | false =>
  rw[g]at f;have⟨t,a⟩:=T;have⟨n,o,m,s,p,r,l⟩:=x;exact aF func33 [⟨_,f⟩]
 | true =>
  rw[g]at f;have b:=g;unfold pY at b;rw[qu]at b;have c:=fw_out (nD [[x]]) 3000016 1 (bZ [[x]]) [[x]] (qS _) (by rw[qH];simp[vsizes];omega) (.inl rfl) rfl rfl (λq j y d=>by rw[js.1 j]at d;rw[js.1 d];exact⟨h,Ui _ x T (qS _) ⟨1,(dE b.1).1⟩ b.2,hz⟩);rw[show [[x]].all lamsFs=lamsF x by simp[lamsFs]]at c;have k:=wI (S:=fwQ 3000016 1 (bZ [[x]])) (q:=kX f33 0=kX f33 0) rfl (ps:=[]) al0;rw[qh5];have⟨t,a⟩:=T;rcases c with⟨e,c⟩|⟨e,c⟩<;>rw[e]
  all_goals
   clear e b g;have⟨n,o,m,s,p,r,l⟩:=x;exact Ce func33 [(16,nilA)] [_] (by intro y d;rw[js]at d;subst d;exact c) [⟨_,f⟩] k
def fitsAll:ao->an->Bool
 | T::s,x::l=>qC T x&&fitsAll s l
 | _,_=>true
def Yw (s:ao) (l:an) (j:Nat):St:=[((0,1),.of (dZ s)),((0,24),.of (qi l)),((0,25),lW (vasD l).length),((0,26),.of (jA j))]
def Zv (b:Bool):Nat:=if b then 2 else 1
def Zw (b:Bool):St:=if b then []else [((0,6),aQ false)]
def JQ{s:ao}{l:an}(A:okTs s)(y:okVs l)(r:s.length=l.length)(D:l.length<=100000)(hz:∀x∈l,x.size<=6000000) :
 ∀(k j:Nat),j+k=l.length->vO prog f27.ntmps ⟨gF f27,Yw s l j,Zv (fitsAll (s.drop j) (l.drop j)),Zw (fitsAll (s.drop j) (l.drop j))⟩:=λk=>by
 induction k with
 | zero =>
  intro j w;have f:=wH (a:=Int.ofNat j) (b:=((vasD l).length:Int)) OF;have v:fitsAll (s.drop j) (l.drop j):=by rw[qf1 (by omega:l.length<=j)];cases s.drop j<;>rfl
  rw[v];exact xQ (e:=1) [(27,bA false)] [] (al f al0)
 | succ k C =>
  intro j w;have d:j<l.length:=od
  have c:j<s.length:=od
  have f:=is_lt (a:=Int.ofNat j) (b:=((vasD l).length:Int)) OF;have u:=PT (qn d);have B:mD (lW (IntKind.i64.wrap (Int.ofNat j+1))) (jA (j+1)):=yY (zF ot oB oB);have hF:=VJ (okTs_at.1 A _ (zd c)) (okVs_at.1 y _ (zd d)) (hz _ (zd d));have z:=C (j+1) od;rw[yW d,yW c];have g:∀t a,s[j] =.nd t a->OQ s j t a:=λt a e=>EK (by rw[qn c,e]);simp only[fitsAll];generalize l[j]=x at *;generalize s[j]=T at *;generalize qC T x=b at *;have⟨t,a⟩:=T;have g:=g t a rfl;have⟨m,n,i,q,o,p,h⟩:=x
  cases b with
  | false =>
   rw[Bool.false_and];exact xQ (e:=0) [(27,bA true),(29,.one (.e (vaD (.mk m n i q o p h)) 0)),(33,.one (.e (tyD (.nd t a)) 0))] [⟨_,hF⟩] (al f (al u (al g al0)))
  | true =>
   rw[qh5];exact LG [(27,bA true),(29,.one (.e (vaD (.mk m n i q o p h)) 0)),(33,.one (.e (tyD (.nd t a)) 0)),(38,jA (j+1))] [⟨_,hF⟩] z (al f (al u (al g (al B al0))))
def rW (n:Tr) (s:ao) (l:an):Bool:=(match codeF n s with
 | .no _=>false
 | .ok _ _=>true)&&decide (l.length=s.length)&&fitsAll s l
def Gm{n:Tr}{s x:ao}{f:Bool}(h:codeF n s =.ok f x):s.length<=40:=by
 unfold codeF at h;split at h
 .cases h
 split at h
 .cases h
 split at h
 .cases h
 omega
theorem Pn{n:Tr}{s:ao}{l:an}(hn:okN n)(hz0:n.size<=4611686018427387904)(hs:okTs s)(hl:okVs l)(hz:∀x∈l,x.size<=6000000)(hE:∀e,codeF n s =.no e->e≠0):Hd ⟨27,[ndA n,dZ s,qi l],aQ (rW n s l)⟩:=by
 have hC:=IY hn hz0 hs;unfold rW;have⟨nk,nn,np,nz,na⟩:=n
 cases hc:codeF (.nd nk nn np nz na) s with
 | no e =>
  rw[hc]at hC;have he:=hE e hc;simp only[Bool.false_and];exact runT func27 [(18,bA true)] [⟨_,hC⟩] (ob:=[jJ (!decide (e=0)) true]) (al (eT (by simp[he])) al0)
 | ok f ts =>
  rw[hc]at hC;simp only[qh5]
  by_cases hlen:l.length=s.length
  .have hL:=JQ hs hl hlen.symm (by have:=Gm hc;omega) hz l.length 0 (by omega);rw[qg4,qg4]at hL;rw[show decide (l.length=s.length) by simpa using hlen,qh5];generalize fitsAll s l=b at *;have i1:jJ (!decide (((vasD l).length:Int)=((tysD s).length:Int))) false:=eT (by rw[qY,eY];simp[hlen])
   cases b with
   | true=>exact Ce func27 [(23,bA false)] [⟨gF f27,Yw s l 0,2,[]⟩] (by intro x hx;rw[js]at hx;subst hx;exact hL) [⟨_,hC⟩] (ob:=[jJ (!decide (((vasD l).length:Int)=((tysD s).length:Int))) false]++((gF f27=gF f27)::(Yw s l 0).map (λx=>some x.2=some x.2))) (wI rfl (al i1 al0))
   | false=>exact Ce func27 [(23,bA false)] [⟨gF f27,Yw s l 0,1,[((0,6),aQ false)]⟩] (by intro x hx;rw[js]at hx;subst hx;exact hL) [⟨_,hC⟩] (ob:=[jJ (!decide (((vasD l).length:Int)=((tysD s).length:Int))) false]++((gF f27=gF f27)::(Yw s l 0).map (λx=>some x.2=some x.2))) (wI rfl (al i1 al0))
  .rw[show decide (l.length=s.length)=false by simpa using hlen,Bool.false_and];have i1:jJ (!decide (((vasD l).length:Int)=((tysD s).length:Int))) true:=eT (by rw[qY,eY];simp;omega);exact runT func27 [(23,bA true)] [⟨_,hC⟩] (ob:=[jJ (!decide (((vasD l).length:Int)=((tysD s).length:Int))) true]) (al i1 al0)
def zL (n:Int):Bool:=decide (0<=n)&&decide (n<12)
def Gb (n:Int):Bool:=decide (0<=n)&&kE n
def Ah (en:En):Bool:=zL en.self&&zL en.sender&&Gb en.amount&&Gb en.balance
def vZ(n:Int)(w:bx):Calls prog 49 #[.i n] w λe w'=>e =.returned (.bool (zL n))/\w'=w:=by
 unfold zL
 by_cases h:0<=n
 .have a:decide (0<=n):=by simpa using h
  go_enter func49,ntmps49;go_wp2;go_ret;exact⟨by rw[a];rfl,rfl⟩
 .have a:decide (0<=n)=false:=by simpa using h
  have b:n<0:=od
  rw[a];go_enter func49,ntmps49;go_wp2;go_ret;exact⟨rfl,rfl⟩
def xO(n:Int)(w:bx):Calls prog 50 #[.i n] w λe w'=>e =.returned (.bool (Gb n))/\w'=w:=by
 unfold Gb;have b:=jh (jI n)
 by_cases h:0<=n
 .have a:decide (0<=n):=by simpa using h
  go_enter func50,ntmps50;go_wp2_with ((go_at_call 78;(with_reducible refine (b.out _).mono ?_);rintro e w' ⟨rfl,rfl⟩));go_ret;exact⟨by rw[a];rfl,rfl⟩
 .have a:decide (0<=n)=false:=by simpa using h
  have c:n<0:=od
  rw[a];go_enter func50,ntmps50;go_wp2;go_ret;exact⟨rfl,rfl⟩
def DD(en:En)(w:bx):Calls prog 26 #[.agg #[.i en.self,.i en.sender,.i en.amount,.i en.balance]] w λe w'=>e =.returned (.bool (Ah en))/\cm w w' none:=by
 unfold Ah;have⟨a,b,c,d⟩:=JT (vZ en.self) (vZ en.sender) (xO en.amount) (xO en.balance);generalize zL en.self=f at a|-;generalize zL en.sender=g at b|-;generalize Gb en.amount=h at c|-;generalize Gb en.balance=j at d|-;cases f<;>cases g<;>cases h<;>cases j
 all_goals
  go_enter func26,ntmps26;go_wp2_with (first
   | (go_at_call 49;(with_reducible refine (a.out _).mono ?_);rintro e w' ⟨rfl,rfl⟩)
   | (go_at_call 49;(with_reducible refine (b.out _).mono ?_);rintro e w' ⟨rfl,rfl⟩)
   | (go_at_call 50;(with_reducible refine (c.out _).mono ?_);rintro e w' ⟨rfl,rfl⟩)
   | (go_at_call 50;(with_reducible refine (d.out _).mono ?_);rintro e w' ⟨rfl,rfl⟩))
  go_ret;exact⟨by first|rfl|simp,aK _⟩
noncomputable def Xf (en:En) (aC:Int) (m:Ma):Out:=open Classical in if h:∃N,fq en aC N m ≠ .stuck then fq en aC (Classical.choose h) m else .stuck
def xA{en:En}{aC:Int}{m:Ma}{N:Nat}(h:fq en aC N m ≠ .stuck):Xf en aC m=fq en aC N m:=by
 have b:∃N,fq en aC N m ≠ .stuck:=⟨N,h⟩;unfold Xf;rw[dif_pos b];have c:=Classical.choose_spec b;rcases Nat.le_total (Classical.choose b) N with a|a
 .exact (Ew _ _ c a).symm
 .exact Ew _ _ h a
structure Rs where
 code:Int
 stack:an
 said:Va
 aC:Int
 aO:Int
def rsO:Out->Rs
 | .go m=>⟨0,m.st,zeroVa,m.paid,m.aO⟩
 | .no e m=>⟨e,[],if e=10 then m.said else zeroVa,m.paid,0⟩
 | .stuck=>⟨14,[],zeroVa,0,0⟩
noncomputable def Fy (en:En) (n:Tr) (s:ao) (l:an) (aC:Int):Rs:=if Ah en/\rW n s l then rsO (Xf en aC (jO l n.args0))else rsO .stuck
def Md{en:En}(h:Ah en):yH en:=by simp only[Ah,zL,Gb,kE,qu,kj]at h;simp only[yH,lY,gN,kj];omega
def fitsAll_iff:∀{s:ao}{l:an},s.length=l.length->(fitsAll s l ↔ FitS s l)
 | [],[],_=>by simp[fitsAll,FitS]
 | T::s,x::l,h=>by simp only[fitsAll,FitS,Fit,qu];rw[fitsAll_iff (by simpa using h)]
 | [],_::_,h=>by simp at h
 | _::_,[],h=>by simp at h
def zb{n:Tr}{s:ao}{l:an} : rW n s l ↔ (∃f x,codeF n s =.ok f x)/\FitS s l:=by
 unfold rW
 cases c:codeF n s with
 | no e=>simp
 | ok f x =>
  simp only[qh5,qu,kj];constructor
  .rintro⟨a,b⟩;exact⟨⟨f,x,rfl⟩,(fitsAll_iff a.symm).1 b⟩
  .rintro⟨_,h⟩;exact⟨(fitS_len h).symm,(fitsAll_iff (fitS_len h)).2 h⟩
def Cg{en:En}{n:Tr}{s x z:ao}{l:an}{f:Bool}{aC:Int}(a:yH en)(hc:codeF n s =.ok f x)(e:f=false->z=x)(b:z.length<=342)(c:FitS s l)(d:Sm l):∃N,Done aC z (fq en aC N (jO l n.args0)) :=
 VE a b _ _ (Nat.lt_succ_self _) (Gg hc e c d)
def uW{aC:Int}{z:ao}{o:Out}(h:Done aC z o):o ≠ .stuck:=λe=>by rw[e]at h;exact h
structure Fn (m:Ma):Prop where
 ok:okVs m.st
 st:m.st.length<=50000000
 fr:m.fr.length<=50000000
section
variable {c:Mc}{m:Ma}{p:Int}{ps:Nat->Ma->Prop}
def GZ{a:Va}{s:an}(h:(sm m (a::s)).st.length<=50000000):s.length<=50000000:=by simp at h;omega
def OU{a b:Va}{s:an}(h:(sm m (a::b::s)).st.length<=50000000):s.length<=50000000:=by simp at h;omega
def Zu{a b d:Va}{s:an}(h:(sm m (a::b::d::s)).st.length<=50000000):s.length<=50000000:=by simp at h;omega
def pt (m:Ma) (s l:an) (i:Nat) (hk:okVs l) (hne:bz (sm m s) l ≠ .stuck) (hl:s.length<=50000000) (hi:∀x,ps i x->EM (sm m s) x:=by exact λ_ h=>h) (hj:∀x,oP (bz (sm m s) l) x->ps (i+1) x:=by exact λ_ h=>h):{ s:Sp // @Holds (c.res ps) prog s }:=pu (IX (m:=sm m s) (l:=l) 7 hk (.inl rfl) hne hl) i hi hj
def YV (m:Ma) (s:an) (k n a:Int) (z:bo) (x y q:Nat) (args:an) (types:ao) (code:aE) (i:Nat) (hk:okV (.mk k n a z args types code)) (h1:x=7\/args=[]) (h2:y=2\/types=[]) (h3:q=5\/code=[]) (hne:bz (sm m s) [.mk k n a z args types code] ≠ .stuck) (hl:s.length<=50000000) (hi:∀x,ps i x->EM (sm m s) x:=by exact λ_ h=>h) (hj:∀x,oP (bz (sm m s) [.mk k n a z args types code]) x->ps (i+1) x:=by exact λ_ h=>h):{ s:Sp // @Holds (c.res ps) prog s }:=pu (SE (m:=sm m s) k n a z x y q args types code hk h1 h2 h3 hne hl) i hi hj
def YB{x y:Va} : bD (gT x y):=by unfold bD;rcases Hq x y with h|h|h<;>omega
def SI(A:p=46\/p=47\/p=48\/p=49\/p=50\/p=51\/p=53\/p=54)(y:Fn m)(e:l8 p m ≠ .stuck):HO c m 120 [iA p] (l8 p m):=by
 obtain⟨m,s,rfl⟩:∃M s,m=sm M s:=⟨m,m.st,rfl⟩;have⟨x,f,C⟩:=y;rcases A with rfl|rfl|rfl|rfl|rfl|rfl|rfl|rfl
 rotate_right
 .simp only[l8,↓reduceIte]at e|-;exact eH [] func120 [up H_none,pt m s [noneV] 0 ⟨ok_none,trivial⟩ e f]
 all_goals
  rcases s with _|⟨a,s⟩
  .exact absurd rfl e
  have⟨g,B⟩:=x;have⟨k,n,i,z,r,t,d⟩:=a
 .rcases s with _|⟨b,s⟩
  .exact absurd rfl e
  simp only[l8,Int.reduceEq,↓reduceIte]at e|-;exact eH [sm m (b::s),sm m s] func120 [tk m (.mk k n i z r t d) (b::s) 0,tk m b s 1,up (pX (.mk k n i z r t d) b),pt m s [aY (.mk k n i z r t d) b] 2 ⟨si g B.1,trivial⟩ e (OU f)]
 .simp only[l8,Int.reduceEq,↓reduceIte]at e|-;exact eH [sm m s] func120 [tk m (.mk k n i z r t d) s 0,pt m s r 1 g.2.1 e (GZ f)]
 .rcases r with _|⟨⟨l,o,j,w,q,v,h⟩,r⟩
  .exact absurd rfl e
  simp only[l8,Int.reduceEq,↓reduceIte]at e|-;exact eH [sm m s] func120 [tk m (.mk k n i z _ t d) s 0,pt m s [.mk l o j w q v h] 1 ⟨g.2.1.1,trivial⟩ e (GZ f)]
 .rcases r with _|⟨u,_|⟨⟨l,o,j,w,q,v,h⟩,r⟩⟩
  .exact absurd rfl e
  .exact absurd rfl e
  simp only[l8,Int.reduceEq,↓reduceIte]at e|-;exact eH [sm m s] func120 [tk m (.mk k n i z _ t d) s 0,pt m s [.mk l o j w q v h] 1 ⟨g.2.1.2.1,trivial⟩ e (GZ f)]
 .simp only[l8,Int.reduceEq,↓reduceIte]at e|-;exact eH [sm m s] func120 [tk m (.mk k n i z r t d) s 0,YV m s 12 0 0 ⟨#[]⟩ 7 0 0 [.mk k n i z r t d] [] [] 1 ⟨⟨i64,i64,i64,ov⟩,⟨g,trivial⟩,trivial,trivial⟩ (.inl rfl) (.inr rfl) (.inr rfl) e (GZ f)]
 .simp only[l8,Int.reduceEq,↓reduceIte]at e|-;exact eH [sm m s] func120 [tk m (.mk k n i z r t d) s 0,YV m s 12 1 0 ⟨#[]⟩ 7 0 0 [.mk k n i z r t d] [] [] 1 ⟨⟨i64,i64,i64,ov⟩,⟨g,trivial⟩,trivial,trivial⟩ (.inl rfl) (.inr rfl) (.inr rfl) e (GZ f)]
 .simp only[l8,Int.reduceEq,↓reduceIte]at e|-;exact eH [sm m s] func120 [tk m (.mk k n i z r t d) s 0,up (mU (.mk k n i z r t d)),pt m s [aV (.mk k n i z r t d)] 1 ⟨pO g,trivial⟩ e (GZ f)]
def Ww(l:p=73\/p=74\/p=75\/p=76\/p=77\/p=78\/p=79)(v:Fn m)(w:∀x∈m.st,x.size<=20000000)(e:xm p m ≠ .stuck):HO c m 125 [iA p] (xm p m):=by
 obtain⟨m,s,rfl⟩:∃M s,m=sm M s:=⟨m,m.st,rfl⟩;have⟨u,f,C⟩:=v;rcases s with _|⟨a,s⟩
 .rcases l with rfl|rfl|rfl|rfl|rfl|rfl|rfl<;>exact absurd rfl e
 have⟨A,B⟩:=u;have⟨k,n,i,z,r,t,d⟩:=a;rcases l with rfl|rfl|rfl|rfl|rfl|l
 .rcases s with _|⟨b,s⟩
  .exact absurd rfl e
  have o:bD (gT (.mk k n i z r t d) b):=YB;simp only[xm,Int.reduceEq,↓reduceIte]at e|-;exact eH [sm m (b::s),sm m s] func125 [tk m (.mk k n i z r t d) (b::s) 0,tk m b s 1,up (Tc A B.1 (w _ (.head _))),up (eU 3 (gT (.mk k n i z r t d) b)),pt m s [aW 3 (gT (.mk k n i z r t d) b)] 2 ⟨oN i64 o,trivial⟩ e (OU f)]
 .exact eH [sm m s] func125 [tk m (.mk k n i z r t d) s 0,up (pJ (decide (n=0))),pt m s [aZ (decide (n=0))] 1 ⟨mP _,trivial⟩ e (GZ f)]
 .exact eH [sm m s] func125 [tk m (.mk k n i z r t d) s 0,up (pJ (decide (n<0))),pt m s [aZ (decide (n<0))] 1 ⟨mP _,trivial⟩ e (GZ f)]
 .simp only[xm,Int.reduceEq,↓reduceIte]at e|-;exact eH [sm m s] func125 [tk m (.mk k n i z r t d) s 0,up (pJ (decide (0<n))),pt m s [aZ (decide (0<n))] 1 ⟨mP _,trivial⟩ e (GZ f)]
 .exact eH [sm m s] func125 [tk m (.mk k n i z r t d) s 0,up (wX (.mk k n i z r t d)),up (pJ (!kJ (.mk k n i z r t d))),pt m s [aZ (!kJ (.mk k n i z r t d))] 1 ⟨mP _,trivial⟩ e (GZ f)]
 rcases s with _|⟨b,s⟩
 .rcases l with rfl|rfl<;>exact absurd rfl e
 have j:=wX (.mk k n i z r t d);have q:=wX b;have g:xm 78 (sm m (.mk k n i z r t d::b::s))=bz (sm m s) [aZ (kJ (.mk k n i z r t d)&&kJ b)]:=rfl;have h:xm 79 (sm m (.mk k n i z r t d::b::s))=bz (sm m s) [aZ (kJ (.mk k n i z r t d)||kJ b)]:=rfl;rcases l with rfl|rfl
 all_goals
  first|rw[g]at e|- | rw[h]at e|-
  clear g h;generalize kJ (.mk k n i z r t d)=x at j e|-;generalize kJ b=y at q e|-;cases x
 .exact eH [sm m (b::s),sm m s] func125 [tk m (.mk k n i z r t d) (b::s) 0,tk m b s 1,up j,up (pJ false),pt m s [aZ false] 2 ⟨mP _,trivial⟩ e (OU f)]
 .exact eH [sm m (b::s),sm m s] func125 [tk m (.mk k n i z r t d) (b::s) 0,tk m b s 1,up j,up q,up (pJ y),pt m s [aZ y] 2 ⟨mP _,trivial⟩ e (OU f)]
 .exact eH [sm m (b::s),sm m s] func125 [tk m (.mk k n i z r t d) (b::s) 0,tk m b s 1,up j,up q,up (pJ y),pt m s [aZ y] 2 ⟨mP _,trivial⟩ e (OU f)]
 .exact eH [sm m (b::s),sm m s] func125 [tk m (.mk k n i z r t d) (b::s) 0,tk m b s 1,up j,up (pJ true),pt m s [aZ true] 2 ⟨mP _,trivial⟩ e (OU f)]
end
def tl (b v:Bool):Prop:=some (aQ b)=some (.of (bA v))
def zZ{b v:Bool}(h:b=v):tl b v:=by rw[h];rfl
def fE{b v:Bool}(h:b=v):∀p∈[tl b v],p:=by simp[zZ h]
def sM{b v a c:Bool}(h:b=v)(d:a=c):∀p∈[tl b v,tl a c],p:=by simp[zZ h,zZ d]
def IC{b v a d c e:Bool}(h:b=v)(f:a=d)(g:c=e):∀p∈[tl b v,tl a d,tl c e],p:=by simp[zZ h,zZ f,zZ g]
def df{p:Prop}[Decidable p](h:¬p):decide p=false:=qa6 h
def dt{p:Prop}[Decidable p](h:p):decide p:=qg0 h
def nt{p:Prop}[Decidable p](h:¬p):(!decide p):=by simp[h]
section
variable {c:Mc}{m:Ma}{p:Int}{ps:Nat->Ma->Prop}
theorem AP{K:Int}{l:an}(hK:bD K)(hk:okVs l)(hne:jP m K l ≠ .stuck)(hlen:m.st.length<=50000000):HO c m 162 [iA K,qi l] (jP m K l):=by
 have hl:(vasD l).length=l.length:=by simp[vasD_map]
 by_cases h:24<l.length
 .have e:jP m K l =.no 13 m:=by unfold jP;rw[if_pos h]
  rw[e];exact Ol [] [(9,bA true)] func162 [] (ob:=[tl (decide ((24:Int)<((vasD l).length:Nat))) true]) (fE (dt (by omega))) (λx hx=>by cases hx;exact⟨by decide,rfl,rfl⟩)
 .have e:jP m K l=bz m [mkV K l]:=by unfold jP;rw[if_neg h]
  rw[e]at hne|-;exact sI [] [(9,bA false)] func162 [up (EA K l),pt m m.st [mkV K l] 0 ⟨BK hK hk,trivial⟩ hne hlen] (ob:=[tl (decide ((24:Int)<((vasD l).length:Nat))) false]) (fE (df (by omega)))
def Xr{l r:an}{x:Va}(a:okVs l)(c:okV x)(d:okVs r):okVs (uO l x r):=okVs_at.2 λy b=>by
 unfold uO at b;rcases xb.1 b with h|h
 .exact okVs_at.1 a y (qe2 h)
 .rcases xb.1 h with h|h
  .obtain⟨z,hz,rfl⟩:=ud.1 h;exact si c (okVs_at.1 d z hz)
  .exact okVs_at.1 a y (qh2 h)
def Mo{HU:∀l x r,okVs l->okV x->okVs r->r.length<=1->vsizes l<=9000000->risesF l->Hd ⟨165,[qi l,pF x,qi r],.of (qi (uO l x r))⟩}
 (O:p=56\/p=57\/p=59\/p=61\/p=62\/p=63) (hf:Fn m) (hz:∀x∈m.st,x.size<=9000000/\x.s.size<=10000000) (h63:p=63->∀a b d s,m.st=a::b::d::s->b.args.length<=1) (hne:il p m ≠ .stuck):HO c m 121 [iA p] (il p m):=by
 obtain⟨m,s,rfl⟩:∃M s,m=sm M s:=⟨m,m.st,rfl⟩;have⟨Q,J,h3⟩:=hf;have N:∀l:an,(vasD l).length=l.length:=λl=>Kd
 rcases O with rfl|rfl|rfl|rfl|rfl|rfl
 .simp only[il,↓reduceIte]at hne|-;exact eH [] func121 [up (EB 10),pt m s [mkV 10 []] 0 ⟨BK i64 trivial,trivial⟩ hne J]
 .rcases s with _|⟨a,_|⟨b,s⟩⟩
  .exact absurd rfl hne
  .exact absurd rfl hne
  have⟨L,H,T⟩:=Q;have I:=hz b (.tail _ (.head _));have⟨k,n,i,z,r,t,d⟩:=a;have⟨o,n1,j,w,f,v,g⟩:=b;have hl:f.length<=10000000:=by have:=len_vsizes f;have:=I.1;simp only[Va.size]at this;omega
  simp only[il,Int.reduceEq,↓reduceIte]at hne|-;exact eH [sm m (.mk o n1 j w f v g::s),sm m s] func121 [tk m (.mk k n i z r t d) (.mk o n1 j w f v g::s) 0,tk m (.mk o n1 j w f v g) s 1,up (Da (m:=7) (n:=7) (l:=[.mk k n i z r t d]) (r:=f) (.inl rfl) (.inl rfl) oB),pu (AP (m:=sm m s) (K:=10) (l:=.mk k n i z r t d::f) i64 ⟨L,H.2.1⟩ hne (OU J)) 2]
 .rcases s with _|⟨a,s⟩
  .exact absurd rfl hne
  have⟨L,H⟩:=Q;have I:=hz a (.head _);have⟨k,n,i,z,r,t,d⟩:=a;have hl:=N r;have aa:r.length<=10000000:=by have:=len_vsizes r;have:=I.1;simp only[Va.size]at this;omega
  have ab:z.size<=10000000:=I.2;simp only[il,Int.reduceEq,↓reduceIte]at hne|-;exact sI [sm m s] [(39,iA ((z.size+r.length:Nat):Int))] func121 [tk m (.mk k n i z r t d) s 0,up (eU 4 ((z.size+r.length:Nat):Int)),pt m s [aW 4 ((z.size+r.length:Nat):Int)] 1 ⟨oN i64 vm,trivial⟩ hne (GZ J)]
   (ob:=[some (lW (IntKind.i64.wrap ((z.size:Int)+((vasD r).length:Int))))=some (.of (iA ((z.size+r.length:Nat):Int)))]) (by intro p O;rw[js.1 O,hl,show (z.size:Int)+(r.length:Int)=((z.size+r.length:Nat):Int) by omega,YX _ od];rfl)
 .simp only[il,Int.reduceEq,↓reduceIte]at hne|-;exact eH [] func121 [up (EB 13),pt m s [mkV 13 []] 0 ⟨BK i64 trivial,trivial⟩ hne J]
 .rcases s with _|⟨a,_|⟨b,s⟩⟩
  .exact absurd rfl hne
  .exact absurd rfl hne
  have⟨L,H,T⟩:=Q;have I:=hz b (.tail _ (.head _));have⟨o,n1,j,w,f,v,g⟩:=b;have hR:risesF f:=by
   cases h:risesF f with
   | true=>rfl
   | false=>exact absurd (by simp only[il,Va.args,Int.reduceEq,↓reduceIte,h];rfl) hne
  have R:=FN H.2.1 L (by have:=I.1;simp only[Va.size]at this;omega) hR;have e:il 62 (sm m (a :: .mk o n1 j w f v g::s))=if fJ f a then (match f[kz f a]? with
   | some x=>(match x.args with
    | _::y::_=>bz (sm m s) [aV y]
    | _=>.stuck)
   | none=>.stuck)else bz (sm m s) [noneV]:=by simp only[il,Va.args,Int.reduceEq,↓reduceIte,hR];rfl
  rw[e]at hne|-;clear e
  cases hF:fJ f a with
  | false =>
   rw[hF]at hne R;simp only[ja5,↓reduceIte]at hne|-;exact eH [sm m (.mk o n1 j w f v g::s),sm m s] func121 [tk m a (.mk o n1 j w f v g::s) 0,tk m (.mk o n1 j w f v g) s 1,up R,up H_none,pt m s [noneV] 2 ⟨ok_none,trivial⟩ hne (OU J)]
  | true =>
   rw[hF]at hne R;simp only[↓reduceIte]at hne|-
   cases S:f[kz f a]? with
   | none=>rw[S]at hne;exact absurd rfl hne
   | some q =>
    rw[S]at hne;have Y:=okVs_at.1 H.2.1 q (zj S);have hi:Bp 7 7 (vasD f) (kz f a)=some (.of (.one (.e (vaD q) 0))):=by unfold Bp;rw[vasD_map,qb7,S];have⟨X,nq,W,zq,P,Z,U⟩:=q;rfl
    have⟨X,nq,W,zq,P,Z,U⟩:=q;rcases P with _|⟨u,_|⟨⟨D,E,C,G,A,F,B⟩,P⟩⟩
    .exact absurd rfl hne
    .exact absurd rfl hne
    simp only at hne|-;exact sI [sm m (.mk o n1 j w f v g::s),sm m s] [(79,.one (.e (vaD (.mk X nq W zq (u :: .mk D E C G A F B::P) Z U)) 0))] func121 [tk m a (.mk o n1 j w f v g::s) 0,tk m (.mk o n1 j w f v g) s 1,up R,up (mU (.mk D E C G A F B)),pt m s [aV (.mk D E C G A F B)] 2 ⟨pO Y.2.1.2.1,trivial⟩ hne (OU J)]
     (ob:=[Bp 7 7 (vasD f) (kz f a)=some (.of (.one (.e (vaD (.mk X nq W zq (u :: .mk D E C G A F B::P) Z U)) 0)))]) (λp O=>by rw[js.1 O];exact hi)
 .rcases s with _|⟨a,_|⟨b,_|⟨d,s⟩⟩⟩
  .exact absurd rfl hne
  .exact absurd rfl hne
  .exact absurd rfl hne
  have⟨L,H,T,q4⟩:=Q;have I:=hz d (.tail _ (.tail _ (.head _)));have hR:risesF d.args:=by
   cases h:risesF d.args with
   | true=>rfl
   | false=>exact absurd (by simp only[il,Int.reduceEq,↓reduceIte,h];rfl) hne
  have V:=h63 rfl a b d s rfl;have e:il 63 (sm m (a::b::d::s))=jP (sm m s) 13 (uO d.args a b.args):=by simp only[il,Int.reduceEq,↓reduceIte,hR]
  rw[e]at hne|-;have⟨o,n1,j,w,f,v,g⟩:=b;have⟨D,E,C,G,A,F,B⟩:=d;exact eH [sm m (.mk o n1 j w f v g :: .mk D E C G A F B::s),sm m (.mk D E C G A F B::s),sm m s] func121 [tk m a (.mk o n1 j w f v g :: .mk D E C G A F B::s) 0,tk m (.mk o n1 j w f v g) (.mk D E C G A F B::s) 1,tk m (.mk D E C G A F B) s 2,
   up (HU A a f T.2.1 L H.2.1 V (by have:=I.1;simp only[Va.size]at this;omega) hR),pu (AP (m:=sm m s) (K:=13) (l:=uO A a f) i64 (Xr T.2.1 L H.2.1) hne (Zu J)) 3]
def pI{K n e:Int}(f:bD K)(hn:bD n)(b:oV m K (n,e) ≠ .stuck)(a:m.st.length<=50000000):HO c m 168 [iA K,iA n,iA e] (oV m K (n,e)):=by
 by_cases h:e=0
 .subst h;simp only[oV,↓reduceIte]at b|-;exact eH [] func168 [up (eU K n),pt m m.st [aW K n] 0 ⟨oN f hn,trivial⟩ b a]
 .have d:oV m K (n,e) =.no e m:=by unfold oV;rw[if_neg h]
  rw[d];exact Ol [] [(10,bA true)] func168 [] (fE (nt h)) (λx g=>by cases g;exact⟨h,rfl,rfl⟩)
def SK{a b:Int}(c:kE a)(hb:kE b)(h:b=0):Hd ⟨199,[iA a,iA b],.rz [iA 0,iA 0,iA 6]⟩:=by have:=Pd a b c hb;simp only[h,↓reduceIte]at this|-;exact this
def wV{a b:Int}(c:kE a)(hb:kE b)(h:b≠0):Hd ⟨199,[iA a,iA b],.rz [iA (a / b),iA (a % b),iA 0]⟩:=by have:=Pd a b c hb;simp only[h,↓reduceIte]at this|-;exact this
def Xb{a b:Int}(c:kE a)(hb:kE b)(h:b≠0):bD (a / b)/\bD (a % b):=by have d:=gY c;have e:=gY hb;have f:=R4 a h;have g:=Cs a h;unfold bD;omega
def Mm{a b:Va}(l:kE a.n)(hb:kE b.n)(g:Gu m a b ≠ .stuck)(j:m.st.length<=50000000):HO c m 169 [pF a,pF b] (Gu m a b):=by
 have⟨k,n,i,z,r,t,d⟩:=a;have⟨o,f,v,B,w,A,u⟩:=b;have l:kE n:=l;have hb:kE f:=hb
 by_cases h:f=0
 .have e:Gu m (.mk k n i z r t d) (.mk o f v B w A u)=bz m [noneV]:=by subst h;simp[Gu,Va.n,l,hb]
  rw[e]at g|-;exact eH [] func169 [up (SK l hb h),up H_none,pt m m.st [noneV] 0 ⟨ok_none,trivial⟩ g j]
 .have e:Gu m (.mk k n i z r t d) (.mk o f v B w A u)=bz m [aV (aY (aW (rH k o).1 (n / f)) (aW (rH k o).2 (n % f)))]:=by simp[Gu,Va.n,Va.k,l,hb,h]
  rw[e]at g|-;have⟨E,F⟩:=Xb l hb h;clear e;have ok:∀x y:Int,bD x->bD y->okVs [aV (aY (aW x (n / f)) (aW y (n % f)))]:=λx y C D=>⟨pO (si (oN C E) (oN D F)),trivial⟩
  by_cases q:k=5
  .subst q
   by_cases p:o=5
   .subst p;simp only[rH,and_self,↓reduceIte]at g|-;exact eH [] func169 [up (wV l hb h),up (eU 4 (n / f)),up (eU 5 (n % f)),up (pX (aW 4 (n / f)) (aW 5 (n % f))),up (mU (aY (aW 4 (n / f)) (aW 5 (n % f)))),pt m m.st [aV (aY (aW 4 (n / f)) (aW 5 (n % f)))] 0 (ok _ _ i64 i64) g j]
   .have e:rH 5 o=(5,5):=by simp[rH,p]
    rw[e]at g|-;exact sI [] [(39,bA false)] func169 [up (wV l hb h),up (eU 5 (n / f)),up (eU 5 (n % f)),up (pX (aW 5 (n / f)) (aW 5 (n % f))),up (mU (aY (aW 5 (n / f)) (aW 5 (n % f)))),pt m m.st [aV (aY (aW 5 (n / f)) (aW 5 (n % f)))] 0 (ok _ _ i64 i64) g j] (fE (df p))
  .by_cases s:k=4
   .subst s
    by_cases p:o=4
    .subst p;simp only[rH,Int.reduceEq,and_self,↓reduceIte]at g|-;exact eH [] func169 [up (wV l hb h),up (eU 4 (n / f)),up (eU 4 (n % f)),up (pX (aW 4 (n / f)) (aW 4 (n % f))),up (mU (aY (aW 4 (n / f)) (aW 4 (n % f)))),pt m m.st [aV (aY (aW 4 (n / f)) (aW 4 (n % f)))] 0 (ok _ _ i64 i64) g j]
    .have e:rH 4 o=(3,4):=by simp[rH,p]
     rw[e]at g|-;exact sI [] [(52,bA false)] func169 [up (wV l hb h),up (eU 3 (n / f)),up (eU 4 (n % f)),up (pX (aW 3 (n / f)) (aW 4 (n % f))),up (mU (aY (aW 3 (n / f)) (aW 4 (n % f)))),pt m m.st [aV (aY (aW 3 (n / f)) (aW 4 (n % f)))] 0 (ok _ _ i64 i64) g j] (fE (df p))
   .have e:rH k o=(3,4):=by simp[rH,q,s]
    rw[e]at g|-;exact sI [] [(35,bA false),(44,bA false),(48,bA false)] func169 [up (wV l hb h),up (eU 3 (n / f)),up (eU 4 (n % f)),up (pX (aW 3 (n / f)) (aW 4 (n % f))),up (mU (aY (aW 3 (n / f)) (aW 4 (n % f)))),pt m m.st [aV (aY (aW 3 (n / f)) (aW 4 (n % f)))] 0 (ok _ _ i64 i64) g j] (IC (df q) (df q) (df s))
def Mq{a b:Int}(d:p=69\/p=70\/p=71)(c:kE a)(hb:kE b):Hd ⟨170,[iA p,iA a,iA b],OG (iU p a b)⟩:=by
 rcases d with rfl|rfl|rfl
 .exact aF func170 [⟨_,VI a b⟩]
 .exact aF func170 [⟨_,X8 a b⟩]
 .exact aF func170 [⟨_,X6 a b c hb⟩]
def Ph{a b:Int}(f:p=69\/p=70\/p=71):Hd ⟨171,[iA p,iA a,iA b],.of (iA (mK p a b))⟩:=by
 by_cases d:a=5
 .subst d;rcases f with rfl|rfl|rfl<;>exact aF func171 []
 by_cases c:b=5
 .subst c;have e:mK p a 5=5:=by simp[mK]
  rw[e];rcases f with rfl|rfl|rfl<;>exact runT func171 [(9,bA false)] [] (fE (df d))
 by_cases g:a=4
 .subst g
  by_cases h:b=4
  .subst h;rcases f with rfl|rfl|rfl<;>exact aF func171 []
  .have e:mK p 4 b=3:=by simp[mK,c,h]
   rw[e];rcases f with rfl|rfl|rfl
   .exact runT func171 [(12,bA false),(23,bA false)] [] (sM (df c) (df h))
   .exact runT func171 [(12,bA false)] [] (fE (df c))
   .exact runT func171 [(12,bA false),(23,bA false)] [] (sM (df c) (df h))
 .have e:mK p a b=3:=by simp[mK,d,c,g]
  rw[e];rcases f with rfl|rfl|rfl
  .exact runT func171 [(9,bA false),(12,bA false),(19,bA false)] [] (IC (df d) (df c) (df g))
  .exact runT func171 [(9,bA false),(12,bA false)] [] (sM (df d) (df c))
  .exact runT func171 [(9,bA false),(12,bA false),(19,bA false)] [] (IC (df d) (df c) (df g))
def Xn{p a b:Int} : bD (mK p a b):=by
 unfold mK;split
 .exact i64
 .split<;>exact i64
def QB{r:Int} : bD (kF r).1:=by
 unfold kF;split
 .rename_i h;have:=gY h;unfold bD;omega
 .exact i64
def Ru{a b:Int} : bD (iU p a b).1:=by
 unfold iU addN Iu mulN
 repeat' split
 all_goals first|exact QB|exact i64
def Yk{a:Int} : bD (EJ a).1:=by
 unfold EJ;split
 .rename_i h;have:=gY h;unfold bD;show _/\_;simp only;omega
 .exact i64
def Mr(D:p=69\/p=70\/p=71\/p=72\/p=93\/p=94\/p=95)(T:Fn m)(hb:(p=69\/p=70\/p=71\/p=72)->∀a b s,m.st=a::b::s->kE a.n/\kE b.n)(f:gL p m ≠ .stuck):HO c m 124 [iA p] (gL p m):=by
 obtain⟨m,s,rfl⟩:∃M s,m=sm M s:=⟨m,m.st,rfl⟩;have⟨S,Q,U⟩:=T;rcases s with _|⟨a,s⟩
 .exact absurd rfl f
 have⟨R,V⟩:=S;have⟨k,n,i,z,r,t,d⟩:=a;have B:=GZ Q
 by_cases F:p=93
 .subst F;simp only[gL,↓reduceIte]at f|-;exact eH [sm m s] func124 [tk m (.mk k n i z r t d) s 0,up (X3 n),pu (pI (m:=sm m s) (K:=4) (n:=(EJ n).1) (e:=(EJ n).2) i64 Yk f B) 1]
 by_cases G:p=94
 .subst G
  by_cases h:n<0
  .have e:gL 94 (sm m (.mk k n i z r t d::s))=bz (sm m s) [noneV]:=by simp[gL,Va.n,h]
   rw[e]at f|-;exact sI [sm m s] [(30,bA true)] func124 [tk m (.mk k n i z r t d) s 0,up H_none,pt m s [noneV] 1 ⟨ok_none,trivial⟩ f B] (fE (dt h))
  .have e:gL 94 (sm m (.mk k n i z r t d::s))=bz (sm m s) [aV (aW 4 n)]:=by simp[gL,Va.n,h]
   rw[e]at f|-;exact sI [sm m s] [(30,bA false)] func124 [tk m (.mk k n i z r t d) s 0,up (eU 4 n),up (mU (aW 4 n)),pt m s [aV (aW 4 n)] 1 ⟨pO (oN i64 R.1.2.1),trivial⟩ f B] (fE (df h))
 by_cases H:p=95
 .subst H;simp only[gL,Int.reduceEq,↓reduceIte]at f|-;exact eH [sm m s] func124 [tk m (.mk k n i z r t d) s 0,up (eU 3 n),pt m s [aW 3 n] 1 ⟨oN i64 R.1.2.1,trivial⟩ f B]
 replace D:p=69\/p=70\/p=71\/p=72:=od
 rcases s with _|⟨b,s⟩
 .rcases D with rfl|rfl|rfl|rfl<;>exact absurd rfl f
 have⟨O,P⟩:=hb D _ b s rfl;have⟨o,l,u,x,v,w,q⟩:=b;replace B:=OU Q
 by_cases E:p=72
 .subst E;simp only[gL,Int.reduceEq,↓reduceIte]at f|-;exact eH [sm m (.mk o l u x v w q::s),sm m s] func124 [tk m (.mk k n i z r t d) (.mk o l u x v w q::s) 0,tk m (.mk o l u x v w q) s 1,pu (Mm (m:=sm m s) O P f B) 2]
 replace D:p=69\/p=70\/p=71:=od
 have I:=Ph (a:=k) (b:=o) D;have C:=Mq D O P;have A:=Ru (p:=p) (a:=n) (b:=l)
 by_cases N:p=70/\k=5
 .obtain⟨rfl,rfl⟩:=N;have e:gL 70 (sm m (.mk 5 n i z r t d :: .mk o l u x v w q::s))=bz (sm m s) [if (iU 70 n l).1<0 then noneV else aV (aW 5 (iU 70 n l).1)]:=by simp only[gL,Va.n,Va.k,Int.reduceEq,↓reduceIte,and_self];rfl
  rw[e]at f|-;clear e I;simp only[Va.n]at C;generalize iU 70 n l=g at f C A|-
  by_cases h:g.1<0
  .simp only[h,↓reduceIte]at f|-;exact sI [sm m (.mk o l u x v w q::s),sm m s] [(76,bA true)] func124 [tk m (.mk 5 n i z r t d) (.mk o l u x v w q::s) 0,tk m (.mk o l u x v w q) s 1,up C,up H_none,pt m s [noneV] 2 ⟨ok_none,trivial⟩ f B] (fE (dt h))
  .simp only[h,↓reduceIte]at f|-;exact sI [sm m (.mk o l u x v w q::s),sm m s] [(76,bA false)] func124 [tk m (.mk 5 n i z r t d) (.mk o l u x v w q::s) 0,tk m (.mk o l u x v w q) s 1,up C,up (eU 5 g.1),up (mU (aW 5 g.1)),pt m s [aV (aW 5 g.1)] 2 ⟨pO (oN i64 A),trivial⟩ f B] (fE (df h))
 .have e:gL p (sm m (.mk k n i z r t d :: .mk o l u x v w q::s))=oV (sm m s) (mK p k o) (iU p n l):=by simp only[gL,F,G,H,E,N,↓reduceIte,Va.n,Va.k]
  rw[e]at f|-;clear e;have y:=Xn (p:=p) (a:=k) (b:=o);simp only[Va.n]at C;generalize iU p n l=g at f C A|-;generalize mK p k o=j at f I y|-;have⟨J,L⟩:=g;rcases D with rfl|rfl|rfl
  .exact eH [sm m (.mk o l u x v w q::s),sm m s] func124 [tk m (.mk k n i z r t d) (.mk o l u x v w q::s) 0,tk m (.mk o l u x v w q) s 1,up C,up I,pu (pI (m:=sm m s) (K:=j) (n:=J) (e:=L) y A f B) 2]
  .exact sI [sm m (.mk o l u x v w q::s),sm m s] [(73,bA false)] func124 [tk m (.mk k n i z r t d) (.mk o l u x v w q::s) 0,tk m (.mk o l u x v w q) s 1,up C,up I,pu (pI (m:=sm m s) (K:=j) (n:=J) (e:=L) y A f B) 2] (fE (df (λh=>N ⟨rfl,h⟩)))
  .exact eH [sm m (.mk o l u x v w q::s),sm m s] func124 [tk m (.mk k n i z r t d) (.mk o l u x v w q::s) 0,tk m (.mk o l u x v w q) s 1,up C,up I,pu (pI (m:=sm m s) (K:=j) (n:=J) (e:=L) y A f B) 2]
end
