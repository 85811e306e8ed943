import Derived.Test.YtgfdimkbfnpepaaGreatKpZap
import Derived.Test.YtgfdimkbfnpepaaGreatKpZao
namespace Go.Proofs.YtgfdimkbfnpepaaGreat
set_option linter.all false
open Go.Proofs.Tryz
open Go.ChangeShapes Go.WideShapes Go.ChangeAt Go.RowKit
set_option maxRecDepth 100000
set_option maxHeartbeats 4000000
def zV{w:World}{x y:Va}{u v:Value}(P:aA (λ_=>True) w x u)(Q:aA (λ_=>True) w y v)(hz:(fU x).size<=20000000)(W:World)(O:w.grownBy W none) :
 Calls prog 197 #[u,v] W λe w'=>e =.returned (.i (gT (fU x) y))/\W.grownBy w' none:=by
 obtain⟨R,T,L,V,b,g,d,r,fE,t,k,p,m,rfl⟩:=P.bg;obtain⟨S,U,M,X,c,j,f,s,sM,z,l,q,n,rfl⟩:=Q.bg;have Y:=jh (λB (h:W.grownBy B none)=>DI P B (aJ O h));have HO:=jh (λZ (hk:aA (λ_=>True) w (fU x) Z) B (h:W.grownBy B none)=>zh hk Q hz B (aJ O h));have F:=aJ (aK (w:=W) (.cells #[.i R,.i T,.i L,.string V,.slice b g d,.slice r fE t,.slice k p m] 36)) (aK (.cells #[.i S,.i U,.i M,.string X,.slice c j f,.slice s sM z,.slice l q n] 36));have I:=jh (aB (o:=.cells #[.i S,.i U,.i M,.string X,.slice c j f,.slice s sM z,.slice l q n] 36) (qT W (.cells #[.i R,.i T,.i L,.string V,.slice b g d,.slice r fE t,.slice k p m] 36)));have A:=jh (qT (W.alloc (.cells #[.i R,.i T,.i L,.string V,.slice b g d,.slice r fE t,.slice k p m] 36)) (.cells #[.i S,.i U,.i M,.string X,.slice c j f,.slice s sM z,.slice l q n] 36));simp only[yb]at A;have a:=jh F;clear P Q F O;unfold bg at Y HO|-;go_enter func197,ntmps197;go_wp2_with fail;generalize (W.alloc _).alloc _=H at *;have K:=λ(w':World) (h:H.grownBy w' none)=>And.intro (cO (l5 I.out h)) (cO (l5 A.out h));have D:H.grownBy H none:=bM _ _;go_region_held3 (λw'=>H.grownBy w' none) (first|with_reducible assumption|with_reducible exact fK oS) (first
  | (go_at_call 137;(with_reducible refine (Y.out _ (aJ a.out (fK D))).mono ?_);rintro e w4 ⟨Z,rfl,G,C⟩;have E:=aJ (fK D) C;have J:=jh G;clear G C)
  | (go_at_call 136;(with_reducible refine (HO.out _ J.out _ (aJ a.out E)).mono ?_);rintro e w5 ⟨rfl,C⟩;have N:=aJ E C;clear C))
 go_wp2_with fail;go_ret;exact⟨rfl,aJ a N⟩
def Yq(l:List Va)(key:Va):kz l key<=l.length:=by unfold kz;exact (List.takeWhile_prefix _).length_le
def TH{l:List Va}{key:Va}(hi:VM l){i:Nat}(h:i<l.length)(c:gT (fU l[i]) key<0):i<kz l key:=by
 refine qh5 λd=>?_;have b:kz l key<l.length:=od
 have a:=PU (l:=l) (key:=key) (qt b)
 by_cases e:kz l key=i
 .subst e;exact a c
 .exact a (sj ((List.pairwise_iff_getElem.1 hi) _ _ b h od) c)
def TI{l:List Va}{key:Va}{i:Nat}(h:i<l.length)(a:¬gT (fU l[i]) key<0):kz l key<=i:=by refine qh5 λb=>a (Em (l:=l) (List.mem_iff_getElem?.2 ⟨i,?_⟩));rw[qc5,oc,qt h]
def Xo{i j m:Nat}(b:m=(i+j) / 2)(h:i+j<=1000000000):wrap64 (IntKind.u64.wrap (wrap64 ((i:Int)+(j:Int))) / 2)=(m:Int):=by
 have a:wrap64 ((i:Int)+(j:Int))=(i:Int)+(j:Int):=Ys
 rw[a,IntKind.wrap_u64];unfold wrap64;omega
def FnS:Value:=.func (.func 197) #[] #[]
def Gh{w:World}{l:List Va}{key:Va}{la:Option Addr}{c:Nat}{V:Nat->Value}{k2 n2 a2:Int}{s2:ByteArray}{t:Option Addr}{v u:Nat}{B:Option Addr}{sM C:Nat}{y:Option Addr}{A z:Nat}(hl:aT (λ_=>True) w l la V)(hk:aA (λ_=>True) w key (bg k2 n2 a2 s2 t v u B sM C y A z))(hz:vsizes l<=20000000)(f:risesF l=true)(W:World)(hW:w.grownBy W none) :
 Calls prog 196 #[.slice la l.length c,.agg #[.i k2,.i n2,.i a2,.string s2,.slice t v u,.slice B sM C,.slice y A z],FnS] W λe w'=>e =.returned (.tuple #[.i (kz l key:Nat),.bool (fJ l key)])/\W.grownBy w' none:=by
 have f:=(rises_inc l).1 f;have ah:=kS l;obtain⟨HL,HK,M,HZ,Z,ad,HB,J⟩:=wj hl hk f hz hW (Yq l key) (qT W (.cells #[.i k2,.i n2,.i a2,.string s2,.slice t v u,.slice B sM C,.slice y A z] 36)) (aK (w:=W) (.cells #[.i k2,.i n2,.i a2,.string s2,.slice t v u,.slice B sM C,.slice y A z] 36));have aj:l.length<=20000000:=od
 clear hl hk hz f hW ah;unfold FnS;go_enter func196,ntmps196;go_wp2_with fail;generalize W.alloc _=n at *;have ae:Hid (n.grownBy n none):=bM _ _;go_loopw [9,10] (λiv jv wr=>∃i j:Nat,iv =.i i/\jv =.i j/\i<=kz l key/\kz l key<=j/\j<=l.length/\n.grownBy wr none) (λiv jv _=>(intOf jv).toNat - (intOf iv).toNat)
 case atStart=>exact⟨0,l.length,rfl,rfl,kB _,ad,qv _,ae⟩
 case round =>
  obtain⟨i,j,rfl,rfl,h1,h2,h3,hg⟩:=hrel;obtain⟨E,H1,H2,H3⟩:=JT hg h1 h2 h3
  by_cases U:i<j
  .have q1:(i:Int)<(j:Int):=by omega
   obtain⟨m,hm⟩:∃m,m=(i+j) / 2:=⟨_,rfl⟩;have X:i<=m:=od
   have Y:m<j:=od
   have g:m<l.length:=od
   have F:=jh X;have s:=jh Y;have q2:(m:Int)<(l.length:Int):=od
   have q3:(0:Int)<=(m:Int):=od
   obtain⟨b,o,eb,_,kk,kn,aq,ss,ab,bl,bq,tb,ul,uc,nb,ml,mc,Q,k⟩:=HL.out.2.1 m g;have I:=HL.out.2.2 m g;rw[Q]at I;subst eb;have D:Hid (C7 w b (o+m*7) kk kn aq ss ab bl bq tb ul uc nb ml mc):=k;obtain⟨a,N,L⟩:=we (λP (h:n.grownBy P none)=>zV I HK (kh (Bu _) (kh (fO (zj g)) HZ)) P (aJ Z (aJ J h))) (λ(hp:gT (fU l[m]) key<0)=>TH M g hp) (λ(hp:¬gT (fU l[m]) key<0)=>TI g hp);have K:=λ(w':World) (h:n.grownBy w' none)=>And.intro (cO (l5 HB h)) (D.keep (aJ Z (aJ J h)) ot);unfold C7 at K;unfold bg at a;generalize gT (fU l[m]) key=r at a N L;clear I Q k h1 h2 h3 X Y g U;have ai:Hid (((i:Int)+(j:Int)) / 2=(m:Int)):=(by omega:((i:Int)+(j:Int)) / 2=(m:Int));have aa:=jh hm;clear hm;have HV:=jh (Xo aa (by have:=H3.out;have:=F.out;have:=s.out;omega:i+j<=1000000000))
   go_upto_region 5 with (fail)
   simp only[HV.out];have d:=E.out;go_region_held3 (λw'=>n.grownBy w' none) (first|with_reducible assumption|with_reducible exact fK oS)
    ((go_at_call 197;(with_reducible refine (a.out _ (fK d)).mono ?_);rintro e w5 ⟨rfl,R⟩;have H:=aJ (fK d) R;clear R))
   have O:=jh H
   by_cases hr:r<0
   .have HR:=jh hr;go_wp2_with fail;go_roundw
    case rel=>exact⟨m+1,j,OF,rfl,N HR,H2,H3,O⟩
    case measure =>
     have:=F.out;have:=s.out;simp[intOf];omega
   .have ak:¬r<0:=hr;have HR:=jh hr;go_wp2_with fail;go_roundw
    case rel=>exact⟨i,m,rfl,rfl,H1,L (by have:=HR.out;omega),kh (Nat.le_of_lt s) H3,O⟩
    case measure =>
     have:=F.out;have:=s.out;simp[intOf];omega
  .have q1:¬(i:Int)<(j:Int):=by omega
   have T:i=kz l key:=od
   have q:=jh T;clear h1 h2 h3 U T
   by_cases x:i<l.length
   .have q2:(i:Int)<(l.length:Int):=by omega
    have q3:(0:Int)<=(i:Int):=od
    obtain⟨b,o,eb,_,kk,kn,aq,ss,ab,bl,bq,tb,ul,uc,nb,ml,mc,Q,k⟩:=HL.out.2.1 i x;have I:=HL.out.2.2 i x;rw[Q]at I;subst eb;have D:Hid (C7 w b (o+i*7) kk kn aq ss ab bl bq tb ul uc nb ml mc):=k;have a:=jh (λP (h:n.grownBy P none)=>zV I HK (kh (Bu _) (kh (fO (zj x)) HZ)) P (aJ Z (aJ J h)));have p:Hid (fJ l key=decide (gT (fU l[i]) key=0)):=by show _=_;unfold fJ;rw[<-q.out,qt x]
    have K:=λ(w':World) (h:n.grownBy w' none)=>And.intro (cO (l5 HB.out h)) (D.out.keep (aJ Z.out (aJ J.out h)) ot);unfold C7 at K;unfold bg at a;generalize gT (fU l[i]) key=r at a p;clear I Q k;have d:=E.out;go_wp2_with fail;go_region_held3 (λw'=>n.grownBy w' none) (first|with_reducible assumption|with_reducible exact fK oS)
     ((go_at_call 197;(with_reducible refine (a.out _ (fK d)).mono ?_);rintro e w5 ⟨rfl,R⟩;have H:=aJ (fK d) R;clear R))
    go_wp2_with fail;go_ret2;exact⟨by rw[p.out,q.out];rfl,aJ J H⟩
   .have q2:¬(i:Int)<(l.length:Int):=by omega
    have p:Hid (fJ l key=false):=by show _=_;unfold fJ;rw[<-q.out,jb1 od]
    have d:=E.out;go_wp2_with fail;refine qh6 (S:=λw'=>n.grownBy w' none) oA (fK d) (λG=>?_);refine fG 0 35 ?_;refine fG 1 36 ?_;refine fG 2 37 ?_;refine fG 3 38 ?_;refine fG 4 39 ?_;refine Wl 5 40 ?_;refine Wl 6 41 ?_;refine Wl 7 42 ?_;refine Wl 8 43 ?_;refine Wl 9 44 ?_;refine Wl 10 45 ?_;refine Wl 11 46 ?_;refine Wl 12 47 ?_;refine fG 13 48 ?_;refine fG 14 6 ?_;refine fG 15 7 ?_;refine qd6 oA ?_ _;go_wp2_with fail;go_ret2;exact⟨by rw[p.out,q.out];rfl,aJ J G⟩
def Kq{w:World}{l:List Va}{key:Va}{x:Option Addr}{c:Nat}{V:Nat->Value}{v y q:Int}{z:ByteArray}{b:Option Addr}{f d:Nat}{m:Option Addr}{sM n:Nat}{g:Option Addr}{k j:Nat}(t:aT (λ_=>True) w l x V)(hk:aA (λ_=>True) w key (bg v y q z b f d m sM n g k j))(u:vsizes l<=20000000)(a:risesF l=true)(W:World)(s:w.grownBy W none) :
 Calls prog 164 #[.slice x l.length c,.agg #[.i v,.i y,.i q,.string z,.slice b f d,.slice m sM n,.slice g k j]] W λe w'=>e =.returned (.tuple #[.i (kz l key:Nat),.bool (fJ l key)])/\W.grownBy w' none:=by
 have o:=jh (λp (h:W.grownBy p none)=>Gh (c:=c) t hk u a p (aJ s h));unfold FnS at o;clear t hk u a s;go_enter func164,ntmps164;go_wp2_with ((go_at_call 196;(with_reducible refine (o.out _ (aK _)).mono ?_);rintro e B ⟨rfl,r⟩;have A:=jh (aJ (aK _) r);clear r));go_ret2;exact⟨rfl,A.out⟩
set_option maxHeartbeats 1000000
def uG{ok:Nat->Prop}{B:Nat}{w:World}{v:Value}{l:List Va}{us:List Value}(r:dF B w v us)(N:us.length=l.length)(h:∀(i:Nat) (x:Va) (u:Value),l[i]?=some x->us[i]?=some u->aA ok w x u)(t:∀g,v.ownBlock=some g->ok g)(O:l.length<=maxLen) :
 ∃(a:Option Addr) (c:Nat) (V:Nat->Value),v =.slice a l.length c/\l.length<=c/\aT ok w l a V:=by
 have d:∀i (f:i<l.length),∃u,us[i]?=some u/\aA ok w l[i] u:=λi f=>⟨us[i],qt od,h i l[i] us[i] (qt f) (qt od)⟩;have I:∀u∈us,(nodeCells u).length=7:=λu Q=>by obtain⟨i,f,rfl⟩:=ye Q;obtain⟨u,e,h⟩:=d i od;rw[qt f]at e;simp at e;obtain⟨k,n,p,s,z,al,A,F,tl,G,C,E,D,m⟩:=h.bg;rw[e,m];rfl
 unfold dF at r;rcases r.2 with⟨rfl,S⟩|⟨g,o,H,rfl,J,T,P,K,L,y⟩
 .have q:l.length=0:=by omega
  exact⟨none,0,λ_=>.i 0,by rw[q],od,od,λi f=>od,λi f=>od⟩
 .refine⟨some ⟨g,0,none⟩,o,λi=>(us[i]?).getD (.i 0),by rw[N],od,O,λi f=>?_,λi f=>?_⟩
  .obtain⟨u,e,h⟩:=d i f;obtain⟨k,n,p,s,z,al,A,F,tl,G,C,E,D,m⟩:=h.bg;have b:∀j x,j<7->(nodeCells u)[j]?=some x->w.cell? ⟨g,0+i*7+j,none⟩=some x:=by
    intro j x M R;have:=yy r (g:=g) rfl (i*7+j) x (by rw[flatV_get us I i j u e M];exact R);rw[gI,<-qe0]at this;exact this
   rw[m]at b;exact⟨g,0,rfl,t g rfl,k,n,p,s,z,al,A,F,tl,G,C,E,D,by show (us[i]?).getD _=_;rw[e];exact m,b 0 _ od rfl,b 1 _ od rfl,b 2 _ od rfl,b 3 _ od rfl,b 4 _ od rfl,b 5 _ od rfl,b 6 _ od rfl⟩
  .obtain⟨u,e,h⟩:=d i f;show aA ok w l[i] ((us[i]?).getD _);rw[e];exact h
structure nI (O:Nat->Prop) (W w:World) (v:Value) (l:List Va) (us:List Value):Prop where
 own:dF W.heap.size w v us
 len:us.length=l.length
 lies:∀(i:Nat) (x:Va) (u:Value),l[i]?=some x->us[i]?=some u->aA (λb=>¬O b) W x u
def nI.more{O:Nat->Prop}{W w w':World}{v v':Value}{l l2:List Va}{us ns:List Value}(h:nI O W w v l us)(j:dF W.heap.size w' v' (us++ns))(f:ns.length=l2.length)(g:∀(i:Nat) (x:Va) (u:Value),l2[i]?=some x->ns[i]?=some u->aA (λb=>¬O b) W x u):nI O W w' v' (l++l2) (us++ns):=by
 have a:=h.len;refine⟨j,by simp[a,f],λi x u d c=>?_⟩
 by_cases e:i<l.length
 .exact h.lies i x u (by rw[jt e]at d;exact d) (by rw[jt od]at c;exact c)
 .exact g (i - l.length) x u (by rw[js od]at d;exact d) (by rw[js od,a]at c;exact c)
def XZ (O:Nat->Prop) (W:World) (l:List Va) (e:Ending) (w':World):Prop:=∃a c V,e =.returned (.slice a l.length c)/\l.length<=c/\aT (λb=>¬O b) w' l a V/\W.grownBy w' none
def nI.done{O:Nat->Prop}{W w:World}{v:Value}{l:List Va}{us:List Value}(h:nI O W w v l us)(f:W.grownBy w none)(o:∀b,W.heap.size<=b->¬O b)(q:l.length<=maxLen):XZ O W l (.returned v) w:=by
 obtain⟨a,c,V,rfl,m,n⟩:=uG h.own h.len (λi x u s r=>(dB.grow (O:=O) f).lies (h.lies i x u s r)) (λg e=>o g (by
  rcases h.own.2 with⟨d,_⟩|⟨t,j,k,d,p,_⟩
  .rw[d]at e;cases e
  .rw[d]at e;cases e;exact p)) q
 exact⟨a,c,V,rfl,m,n,f⟩
def Jo{O:Nat->Prop}{W:World}{x y:List Va}{xv yv:Value}{b q qc:Nat}(P:W.cell? ⟨b,q,none⟩=some xv)(Q:W.cell? ⟨b,q+1,none⟩=some yv)(hx:Src O W x xv)(hy:Src O W y yv)(hn:x.length+y.length<=20000000)(hO:∀b,W.heap.size<=b->¬O b) :
 Calls prog 163 #[.slice (some ⟨b,q,none⟩) 2 qc] W (XZ O W (x++y)):=by
 have HX:=jh hx;have HY:=jh hy;obtain⟨nx,C,o,Z⟩:=hx;obtain⟨ny,D,p,y3⟩:=hy;obtain⟨xa,xc,rfl⟩:∃xa xc,xv =.slice xa x.length xc:=by
  rcases C with⟨c,e,h,_⟩|⟨N,c,e,_⟩
  .exact⟨none,c,by rw[e,<-o,h]⟩
  .exact⟨some N,c,by rw[e,o]⟩
 obtain⟨ya,yc,rfl⟩:∃ya yc,yv =.slice ya y.length yc:=by
  rcases D with⟨c,e,h,_⟩|⟨N,c,e,_⟩
  .exact⟨none,c,by rw[e,<-p,h]⟩
  .exact⟨some N,c,by rw[e,p]⟩
 have R:=lL (mO o Z);have S:=lL (mO p y3);rw[o]at R;rw[p]at S;rw[o]at C;rw[p]at D;obtain⟨E,F,r⟩:=we P Q (DC (x.length+y.length) hn);have hi:(x.length:Int)+(y.length:Int)<=20000000:=od
 obtain⟨J,K,L,M,HO⟩:=wg C Z D y3 hO;clear C D Z y3 hO HX HY;go_enter func163,ntmps163;go_wp2_with fail;go_loopw [3,11] (λY g wr=>wr=W/\((g =.i 0/\Y =.i 0)\/(g =.i 1/\Y =.i x.length)\/(g =.i 2/\Y =.i ((x.length+y.length:Nat):Int)))) (λ_ g _=>2 - (intOf g).toNat)
 case atStart=>exact⟨rfl,.inl ⟨rfl,rfl⟩⟩
 case round =>
  obtain⟨V,T⟩:=hrel;replace V:=V.symm;subst V;rcases T with⟨rfl,rfl⟩|⟨rfl,rfl⟩|⟨rfl,rfl⟩
  .go_wp2_with fail;go_roundw
   case rel=>exact⟨by trivial,.inr (.inl ⟨rfl,OF⟩)⟩
   case measure=>simp[intOf]
  .go_wp2_with fail;go_roundw
   case rel=>exact⟨by trivial,.inr (.inr ⟨rfl,OF⟩)⟩
   case measure=>simp[intOf]
  .go_wp2_with fail;refine (r _).mono ?_;rintro e w1 ⟨v0,rfl,f,v⟩;have H:Hid (nI O W w1 v0 [] []):=⟨f,rfl,λi t u h=>by simp at h⟩;have G:=jh v;clear f v r P Q;go_wp2_with fail;go_loopw [6,27] (λX g B=>W.grownBy B none/\((g =.i 0/\∃d,nI O W B X [] d)\/(g =.i 1/\∃d,nI O W B X x d)\/(g =.i 2/\∃d,nI O W B X (x++y) d))) (λ_ g _=>2 - (intOf g).toNat)
   case atStart=>exact⟨G,.inl ⟨rfl,[],H⟩⟩
   case round =>
    obtain⟨k,T⟩:=hrel;have P:=JJ k E;have Q:=JJ k F;have a:=jh k;clear k;rcases T with⟨rfl,d,j⟩|⟨rfl,d,j⟩|⟨rfl,d,j⟩
    .have m:=jh j;have I:=jh (J.grow a);have U:d.length=0:=j.len;clear j;go_wp2_with (at_builtin;refine ed rfl _ _ 28 rfl W.heap.size 36 underlying28 mr rfl ov _ d.length (flat d) rfl m.own _ x.length (flat nx) rfl R.1 I R.2 oT od a.size ?_;intro z A w s _;have l:=jh (dX a m.own (qv _) s.1);have n:=jh (m.more (v':=z) (w':=A) (ns:=nx) (l2:=x) (by unfold dF;rw[bV,qS,o];exact w) o K);clear w s);go_roundw
     case rel=>exact⟨l,.inr (.inl ⟨rfl,_,n⟩)⟩
     case measure=>simp[intOf]
    .have m:=jh j;have I:=jh (L.grow a);have U:=j.len;clear j;go_wp2_with (at_builtin;refine ed rfl _ _ 28 rfl W.heap.size 36 underlying28 mr rfl ov _ d.length (flat d) rfl m.own _ y.length (flat ny) rfl S.1 I S.2 oT od a.size ?_;intro z A w s _;have l:=jh (dX a m.own (qv _) s.1);have n:=jh (m.more (v':=z) (w':=A) (ns:=ny) (l2:=y) (by unfold dF;rw[bV,qS,p];exact w) p M);clear w s);go_roundw
     case rel=>exact⟨l,.inr (.inr ⟨rfl,_,n⟩)⟩
     case measure=>simp[intOf]
    .have HD:=jh (j.done a HO (by simp only[qS];unfold maxLen;omega));clear j;go_wp2_with fail;go_ret;exact HD
open Pe
section
variable {ok:Nat->Prop}{w:World}{x y:Va}
def BK{k:Int}{l:List Va}(h:bD k)(a:okVs l):okV (mkV k l):=⟨⟨h,i64,i64,ov⟩,a,trivial,trivial⟩
def oN{k n:Int}(h:bD k)(a:bD n):okV (aW k n):=⟨⟨h,a,i64,ov⟩,trivial,trivial,trivial⟩
def si(h:okV x)(k:okV y):okV (aY x y):=BK i64 ⟨h,k,trivial⟩
def pO(h:okV x):okV (aV x):=BK i64 ⟨h,trivial⟩
def ok_none:okV noneV:=BK i64 trivial
def mP(b:Bool):okV (aZ b):=oN i64 (by cases b<;>exact i64)
def VC{k n a:Int}{s:ByteArray}{i j q:Nat}{al:List Va}{ty:List Ty}{co:List Tr}(g:i=7\/al=[])(l:j=2\/ty=[])(m:q=5\/co=[])(v:Value)(h:iZ (λ_=>none) ok w (.of (.agg [.d (.v (.i k)),.d (.v (.i n)),.d (.v (.i a)),.d (.v (.string s)),.d (.s i (vasD al)),.d (.s j (tysD ty)),.d (.s q (ndsD co))])) v):iZ (λ_=>none) ok w (.of (pF (.mk k n a s al ty co))) v:=by
 obtain⟨x,e,o⟩:=h
 match x,o with
 | [y,z,A,B,C,D,E],⟨p,r,t,u,b,c,f,_⟩ =>
  refine⟨_,e,p,r,t,u,?_,?_,?_,trivial⟩
  .rcases g with rfl|rfl
   .exact b
   .exact gG b
  .rcases l with rfl|rfl
   .exact c
   .exact gG c
  .rcases m with rfl|rfl
   .exact f
   .exact gG f
def Pe.Holds.val{f:FuncId}{args:List A1}{k n a:Int}{s:ByteArray}{i j q:Nat}{al:List Va}{ty:List Ty}{co:List Tr}(h:Hd ⟨f,args,.of (.agg [.d (.v (.i k)),.d (.v (.i n)),.d (.v (.i a)),.d (.v (.string s)),.d (.s i (vasD al)),.d (.s j (tysD ty)),.d (.s q (ndsD co))])⟩)(b:i=7\/al=[])(c:j=2\/ty=[])(e:q=5\/co=[]):Hd ⟨f,args,.of (pF (.mk k n a s al ty co))⟩:=h.conv (λ_ _ _ h=>h) (λok w v=>VC b c e v)
end
section
variable {x y:Va}
def EA(k:Int)(l:List Va):Hd ⟨160,[iA k,qi l],.of (pF (mkV k l))⟩:=Holds.val (i:=7) (j:=0) (q:=0) (al:=l) (ty:=[]) (co:=[]) (aF func160 []) (.inl rfl) (.inr rfl) (.inr rfl)
def EB(k:Int):Hd ⟨160,[iA k,nilA],.of (pF (mkV k []))⟩:=Holds.val (i:=0) (j:=0) (q:=0) (al:=[]) (ty:=[]) (co:=[]) (aF func160 []) (.inr rfl) (.inr rfl) (.inr rfl)
def eU(k n:Int):Hd ⟨161,[iA k,iA n],.of (pF (aW k n))⟩:=Holds.val (i:=0) (j:=0) (q:=0) (al:=[]) (ty:=[]) (co:=[]) (aF func161 []) (.inr rfl) (.inr rfl) (.inr rfl)
def Pq(s:ByteArray):Hd ⟨173,[.one (.d (.v (.string s)))],.of (pF (di s))⟩:=Holds.val (i:=0) (j:=0) (q:=0) (al:=[]) (ty:=[]) (co:=[]) (aF func173 []) (.inr rfl) (.inr rfl) (.inr rfl)
def H_none:Hd ⟨157,[],.of (pF noneV)⟩:=aF func157 [⟨_,EB 9⟩]
def mU(x:Va):Hd ⟨159,[pF x],.of (pF (aV x))⟩:=by obtain⟨k,n,a,s,r,t,c⟩:=x;exact aF func159 [⟨_,EA 9 [.mk k n a s r t c]⟩]
def pX(x y:Va):Hd ⟨158,[pF x,pF y],.of (pF (aY x y))⟩:=by obtain⟨k,n,a,s,r,t,c⟩:=x;obtain⟨e,f,b,h,g,i,d⟩:=y;exact aF func158 [⟨_,EA 11 [.mk k n a s r t c,.mk e f b h g i d]⟩]
def AQ(a n:Int)(x:Va):Hd ⟨207,[iA a,iA n,pF x],.of (pF (aM a n x))⟩:=by obtain⟨k,n,a,s,r,t,c⟩:=x;exact Holds.val (i:=7) (j:=0) (q:=0) (al:=[.mk k n a s r t c]) (ty:=[]) (co:=[]) (aF func207 []) (.inl rfl) (.inr rfl) (.inr rfl)
def pJ(b:Bool):Hd ⟨172,[bA b],.of (pF (aZ b))⟩:=by
 cases b
 .exact aF func172 [⟨_,eU 2 0⟩]
 .exact aF func172 [⟨_,eU 2 1⟩]
def wX(x:Va):Hd ⟨117,[pF x],aQ (kJ x)⟩:=by obtain⟨k,n,a,s,r,t,c⟩:=x;exact aF func117 []
def Tc(d:okV x)(f:okV y)(g:x.size<=20000000):Hd ⟨136,[pF x,pF y],.of (iA (gT x y))⟩:=⟨bK func136,λok w i h=>by
 match i,h with
 | [u,v],⟨a,b,_⟩ =>
  refine (zh ((mR d a).ae (λ_ _ _=>trivial)) ((mR f b).ae (λ_ _ _=>trivial)) g w (bM _ _)).mono ?_;rintro e j ⟨rfl,c⟩;exact⟨c,_,rfl,fI.v _⟩⟩
def Te(c:okV x)(d:okV y)(e:x.size<=20000000):Hd ⟨16,[pF x,pF y],aQ (Ij x y)⟩:=jM (bK func16) λok w f h=>by
 match f,h with
 | [u,v],⟨a,b,_⟩=>exact Oo ((mR c a).ae (λ_ _ _=>trivial)) ((mR d b).ae (λ_ _ _=>trivial)) e w (bM _ _)
def OG (r:Int×Int):AV:=.rz [iA r.1,iA r.2]
def EC{f:FuncId}{args:List A1}{r:Int×Int}(a:∀(args:Array Value) (w:World),(callFunc f args).run prog w =.ok (.enter f args) w)(h:∀ok w vs,dU (gm (λ_=>none) ok w) args vs->Calls prog f vs.toArray w (P2 w r)):Hd ⟨f,args,OG r⟩ :=
 ⟨a,λok w vs b=>(h ok w vs b).mono (by rintro e c ⟨rfl,rfl⟩;exact⟨bM _ _,_,rfl,_,rfl,fI.v _,fI.v _,trivial⟩)⟩
def yD{ok:Nat->Prop}{w:World}{vs:List Value}{a b:Int}(h:dU (gm (λ_=>none) ok w) [iA a,iA b] vs):vs=[.i a,.i b]:=by
 match vs,h with
 | [u,v],⟨c,d,_⟩=>rw[bW c,bW d]
def VI(a b:Int):Hd ⟨200,[iA a,iA b],OG (addN a b)⟩:=EC (bK func200) λok w c h=>by rw[yD h];exact Lc a b w
def X8(a b:Int):Hd ⟨201,[iA a,iA b],OG (Iu a b)⟩:=EC (bK func201) λok w c h=>by rw[yD h];exact Vo a b w
def X6(a b:Int)(c:kE a=true)(d:kE b=true):Hd ⟨202,[iA a,iA b],OG (mulN a b)⟩:=EC (bK func202) λok w e h=>by rw[yD h];exact Ur a b w c d
def X3(a:Int):Hd ⟨167,[iA a],OG (EJ a)⟩:=EC (bK func167) λok w c h=>by
 match c,h with
 | [u],⟨b,_⟩=>rw[bW b];exact TA a w
def Pd(a b:Int)(f:kE a=true)(g:kE b=true):Hd ⟨199,[iA a,iA b],.rz [iA (if b=0 then 0 else a / b),iA (if b=0 then 0 else a % b),iA (if b=0 then 6 else 0)]⟩:=⟨bK func199,λok w j h=>by
 rw[yD h];refine (Qi a b w f g).mono ?_;rintro e k ⟨q,r,i,rfl,c,d,n,rfl⟩;refine⟨iW (bM _ _) ,_,rfl,_,rfl,?_⟩
 by_cases e:b=0
 .obtain⟨rfl,rfl,rfl⟩:=c e;simp only[if_pos e];exact⟨fI.v _,fI.v _,fI.v _,trivial⟩
 .obtain⟨rfl,rfl,rfl⟩:=d e;simp only[if_neg e];exact⟨fI.v _,fI.v _,fI.v _,trivial⟩⟩
def FN{l:List Va}(j:okVs l)(o:okV y)(hz:vsizes l<=20000000)(m:risesF l=true):Hd ⟨164,[qi l,pF y],.rz [iA (kz l y:Nat),bA (fJ l y)]⟩:=⟨bK func164,λok w p h=>by
 match p,h with
 | [u,v],⟨d,f,_⟩ =>
  obtain⟨a,c,V,rfl,t,g⟩:=lV j (.inl rfl) d;have b:=mR o f;obtain⟨k,n,a,s,q,al,r,B,tl,C,x,A,z,rfl⟩:=b.bg;refine (Kq (g.ae (λ_ _ _=>trivial)) (b.ae (λ_ _ _=>trivial)) hz m w (bM _ _)).mono ?_;rintro e D ⟨rfl,i⟩;exact⟨i,_,rfl,_,rfl,fI.v _,fI.v _,trivial⟩⟩
def Pj{t:Tr}(n:okN t)(m:fu t=true):Hd ⟨143,[ndA t],.rz [tyA (kreadT t),iA 0]⟩:=⟨bK func143,λok w o h=>by
 match o,h with
 | [u],⟨f,_⟩ =>
  refine (Bv ((oK n f).ae (λb i _=>i))).mono ?_;rintro e r ⟨l,⟨_,u,rfl,g⟩|⟨j,_⟩⟩
  .obtain⟨q,a,c,rfl,d⟩:=qI (g.ae (ok':=λb=>ok b\/w.heap.size<=b) (λb _ h=>.inr h));refine⟨l,_,rfl,_,rfl,?_,fI.v _,trivial⟩;generalize kreadT t=T at d|-;obtain⟨k,p⟩:=T;exact⟨_,rfl,fI.v _,d,trivial⟩
  .exact absurd (m.symm.trans j) ov⟩
def tK{t:Tr}(b:okN t)(a:fu t=true):Hd ⟨166,[ndA t],.of (tyA (kreadT t))⟩:=by have:=Pj b a;generalize kreadT t=T at this|-;obtain⟨k,c⟩:=T;obtain⟨e,f,g,h,d⟩:=t;exact aF func166 [⟨_,this⟩]
def Pv{T:Ty}{t:Tr}(a:okT T)(b:okN t)(c:t.size<=4611686018427387903)(h:jf T t=some x):Hd ⟨113,[tyA T,ndA t],.rz [pF x,iA 0]⟩:=by have:=WI a b c;rw[h]at this;exact this
def Da{l r:List Va}{m n:Nat}(D:okVs l)(E:okVs r)(B:m=7\/l=[])(C:n=7\/r=[])(A:l.length+r.length<=20000000):Hd ⟨163,[.one (.d (.s 1 [[.s m (vasD l)],[.s n (vasD r)]]))],.of (qi (l++r))⟩:=⟨bK func163,λok w H h=>by
 match H,h with
 | [v],⟨g,_⟩ =>
  obtain⟨a,c,U,rfl,_,_,_,k⟩:=fH (g:fI ok w (.s 1 _) v);obtain⟨⟨b,q,rfl,_,i⟩,F⟩:=k 0 _ 0 _ rfl rfl;obtain⟨⟨K,L,e,_,j⟩,G⟩:=k 1 _ 0 _ rfl rfl;simp only[qk,qb2,and_true]at e;obtain⟨rfl,rfl⟩:=e;obtain⟨N,P,I,ex,_,u⟩:=lV D B F;obtain⟨Q,R,J,p,_,x⟩:=lV E C G;rw[ex]at i;rw[p]at j;refine (Jo (O:=λb=>¬ok b/\b<w.heap.size) (qc:=c) (by simpa using i) (by simpa using j) (Src.row (u.ae (λb _ g f=>f.1 g))) (Src.row (x.ae (λb _ g f=>f.1 g))) A (λb o f=>od)).mono ?_;rintro e M ⟨a,c,V,rfl,y,t,z⟩;exact⟨z,_,rfl,yu (t.ae (λb _ h=>by by_cases o:b<w.heap.size;exact .inl (qh5 λf=>h ⟨f,o⟩);exact .inr od)) y⟩⟩
end
def QD(y:Va):lamsF y=((!decide (y.k=14)||jG y)&&lamsFs y.args):=by cases y;rw[lamsF];rfl
def GN(l:List Va)(j:Nat)(h:j<l.length):lamsFs (l.drop j)=(lamsF l[j]&&lamsFs (l.drop (j+1))):=by rw[qa5 h,lamsFs]
mutual
def lam2:Va->Bool
 | .mk k n a s args types code=>(!decide (k=14)||decide (types.length=2))&&lam2s args
def lam2s:List Va->Bool
 | []=>true
 | x::xs=>lam2 x&&lam2s xs
end
def LC(y:Va):lam2 y=((!decide (y.k=14)||decide (y.types.length=2))&&lam2s y.args):=by cases y;rw[lam2];rfl
def lam2s_all:∀l:List Va,lam2s l=l.all lam2
 | []=>rfl
 | x::l=>by rw[lam2s,lam2s_all l];rfl
def sameTs_length:∀{a b:List Ty},sameTs a b=true->a.length=b.length
 | [],[],_=>rfl
 | [],_::_,h=>by simp[sameTs]at h
 | _::_,[],h=>by simp[sameTs]at h
 | _::a,_::b,h=>by simp only[sameTs,qu]at h;simp[sameTs_length h.2]
def Ui(N:Nat):∀(x:Va) (T:Ty),x.size<=N->(∃d,j5 d T=true)->hasV x T=true->lam2 x=true:=by
 induction N with
 | zero=>intro x T h;have:=qZ x;omega
 | succ N B =>
  intro x T E e h;have l:=e;rw[Lu]at h
  cases a:partsOf T x with
  | none=>rw[a]at h;simp at h
  | some ps =>
   rw[a]at h;simp only[qu]at h;obtain⟨⟨f,m⟩,_⟩:=h;have b:=yh e f a;unfold partsOf at a
   cases j:bS T x with
   | none=>rw[j]at a;simp at a
   | some g =>
    rw[j]at a;simp only[qg6,qk]at a;have q:=rE j;have A:=eP x;rw[LC,lam2s_all];simp only[qu];refine⟨?_,zr.2 λy s=>?_⟩
    .obtain⟨d,e⟩:=l;unfold eX at f;simp only[qu,ki]at f;obtain⟨⟨⟨⟨⟨z,_⟩,_⟩,_⟩,n⟩,_⟩:=f
     by_cases c:x.k=14
     .have p:T.t=14:=by rw[<-z];exact c
      unfold eZ at n;rw[oa,if_pos p]at n;have C:=sameTs_length n;have o:=(ug e).1;rw[p]at o;have u:bT 14=2:=rfl;rw[u]at o;rw[jf0 (show x.types.length=2 by omega)];simp
     .rw[jc2 c];rfl
    .obtain⟨i,F,rfl⟩:=ye s;have w:i<g.length:=by omega
     have r:(g[i],x.args[i])∈ps:=by
      rw[<-a];have : (g.zip x.args)[i]'oB=(g[i],x.args[i]):=ot
      rw[<-this];exact zj _
     have v:=zr.1 m _ r;have D:=fO s;exact B _ _ od (b _ r) v
def Wv (W:World) (R:Bool) (N n:Nat) (tv:Value) (wr:World):Prop :=
 ∃(us:List Value) (M:List (List Va)),kD W.heap.size wr tv us/\gM W M us/\nD M=n/\n<=N/\M.all lam2s=true/\M.all lamsFs=R/\W.grownBy wr none
def YY (W:World) (R:Bool) (M':List (List Va)) (l:List Va) (j:Nat) (tv:Value) (wr:World):Prop :=
 ∃(us:List Value),kD W.heap.size wr tv us/\gM W (M'++pushS (l.take j)) us/\(M'++pushS (l.take j)).all lam2s=true/\((M'++pushS (l.take j)).all lamsFs&&lamsFs (l.drop j))=R/\W.grownBy wr none
def Nq{w:World}{T:Ty}{x:Va}{t v:Value}(hT:aH (λ_=>True) w T t)(hV:aA (λ_=>True) w x v)(hz:x.size<=6000000)(W:World)(hW:w.grownBy W none) :
 Calls prog 33 #[t,v] W λe w'=>e =.returned (.bool (qC T x))/\W.grownBy w' none:=by
 have HH:=jh (λW2 (h:W.grownBy W2 none)=>Lv hT hV od W2 (aJ hW h));have bl:Hid (pY T x=true->lam2 x=true):=λh=>by unfold pY at h;simp only[qu]at h;exact Ui _ x T (qv _) ⟨1,(dE h.1).1⟩ h.2
 have N:Hid (qC T x=(pY T x&&lamsF x)):=rfl;obtain⟨k1,n1,a1,s1,aa,ad,ab,az,fE,aC,au,ay,ax,rfl⟩:=hV.bg;obtain⟨a,c,V,rfl,it,cL⟩:=hT.inv;have HV:=jh (aA.up hV hW);have HZ:=jh hz;have cr:=aJ (aK (w:=W) (.cells #[.i T.t,.slice a T.args.length c] 54)) (aK (.cells #[.i k1,.i n1,.i a1,.string s1,.slice aa ad ab,.slice az fE aC,.slice au ay ax] 36));have cn:=iR W (.cells #[.i T.t,.slice a T.args.length c] 54) (.cells #[.i k1,.i n1,.i a1,.string s1,.slice aa ad ab,.slice az fE aC,.slice au ay ax] 36);have cC:=jh cn;have aO:=jh cr;clear hV hz hT cL it hW cr cn;generalize qC T x=r at *;unfold bY bg at *
 cases hh:pY T x with
 | false =>
  rw[hh]at HH N;go_enter func33,ntmps33;go_wp2_with ((go_at_call 56;refine (HH.out _ aO.out).mono ?_;rintro e w1 ⟨rfl,A⟩;have HG:=jh (aJ aO.out A);clear A));go_ret;exact Lf.kZ N.out.symm HG.out
 | true =>
  rw[hh]at HH N;replace bl:=jh (bl.out hh);replace N:Hid (r=lamsF x):=N.out;go_enter func33,ntmps33;go_wp2_with ((go_at_call 56;refine (HH.out _ aO.out).mono ?_;rintro e w1 ⟨rfl,A⟩;have HG:=jh (aJ aO.out A);obtain⟨d0,d1,d2,d3,d4,d5,d6⟩:=cO (l5 cC.out A);clear A));have cp:=qT w1 (.cells #[.i k1,.i n1,.i a1,.string s1,.slice aa ad ab,.slice az fE aC,.slice au ay ax] 36);have bd:=jh (aJ HG.out (aK (.cells #[.i k1,.i n1,.i a1,.string s1,.slice aa ad ab,.slice az fE aC,.slice au ay ax] 36)));have bb:=jh (vF cp (aA.up HV.out bd.out));have cg:Hid ((w1.alloc (.cells #[.i k1,.i n1,.i a1,.string s1,.slice aa ad ab,.slice az fE aC,.slice au ay ax] 36)).heap.size=w1.heap.size+1):=yb _ _;clear d0 d1 d2 d3 d4 d5 d6 cp;generalize w1.alloc _=P at *;obtain⟨μ,hμ⟩:=mM (λn (p:Value×World)=>Wv P r (x.size+1) n p.1 p.2);have HM:=jh hμ;clear hμ;go_loopw [5] (λtv wr=>∃n,Wv P r (x.size+1) n tv wr) (λtv wr=>μ (tv,wr))
  case atStart =>
   refine⟨_,[.slice (some ⟨w1.heap.size,0,none⟩) 1 1],[[x]],?_,⟨⟨_,_,_,rfl,bb.out,by have:=HZ.out;simp[vsizes];omega⟩,trivial⟩,rfl,by rw[qH];simp[vsizes],by simp[lam2s,bl.out],by rw[N.out];simp[lamsFs],aK _⟩;refine⟨rfl,.inr ⟨w1.heap.size+1,1,#[.slice (some ⟨w1.heap.size,0,none⟩) 1 1],rfl,by have:=cg.out;omega,?_,qv _,ov,rfl,rfl⟩⟩;rw[<-cg.out];exact qT _ _
  case round =>
   obtain⟨n0,cx⟩:=hrel;obtain⟨us,M,b,d,hn,bo,s,hR,A⟩:=(HM.out (u5,wr) n0 cx).1;simp only at b A;have hz:=HZ.out;clear cx
   by_cases hv:us.length=0
   .obtain⟨a0,da,rfl⟩:=mg b hv;have cR:=d.len;have cy:M=[]:=qd7.1 od;have bc:r=true:=by rw[<-hR,cy];rfl
    have cG:=jh bc;have U:=jh (aJ bd.out A);clear b d hn bo hR A bc cy cR hv HM HV bb s;go_wp2_with fail;go_ret;exact Lf.kZ cG.out.symm U.out
   .have br:us≠[]:=λe=>hv (by rw[e];rfl);have e1:=(qb4 br).symm;generalize us.dropLast=C at e1;generalize us.getLast br=u at e1;subst e1;obtain⟨M',l,rfl,z,ai,ci,Vi,rfl,bn,cV⟩:=d.last;have bq:(C++[Value.slice ai l.length ci]).length=C.length+1:=by simp
    have aj:=jb3 b ot;rw[bq]at aj;obtain⟨g,cj,rfl,db,cY⟩:=aj;unfold kD at b;rw[bq]at b;have cq:=QX b;have cN:C.length<=cj:=od
    have d0:=yy b (g:=g) rfl C.length (.slice ai l.length ci) ot;rw[gI,qa4]at d0;have ca:=jh (Av b);have cQ:=bn.1;unfold maxLen at cQ;rw[gQ,qH]at hn;simp only[qc6,xf,jh3,Bool.and_true,qu]at hR s;obtain⟨cb,cf,bk,HN,bf,cH,cD⟩:=wi s bn z hn bo hR A;have cJ:C.length=M'.length:=z.len;have dd:C.length<=20000001:=by have h1:=ve M';omega
    obtain⟨cW,ao⟩:∃m0,m0=μ (.slice (some ⟨g,0,none⟩) (C.length+1) cj,wr):=⟨_,rfl⟩;have cE:=jh ao;rw[<-ao]at HN bf;clear ao;clear b d z bn hn bo hR A br hv cq bq cV cJ s;go_wp2_with fail;go_loopw [5,32] (λtv iv wz=>∃j:Nat,j<=l.length/\iv =.i j/\YY P r M' l j tv wz) (λ_ iv _=>l.length - (intOf iv).toNat)
    case atStart =>
     exact⟨0,kB _,rfl,C,ca.out,by simpa[pushS]using bk.out,by simpa[pushS]using cb.out.1,by simpa[pushS]using cH.out,cD.out⟩
    case round =>
     obtain⟨j,hj,rfl,J,b,d,s,hR,A⟩:=hrel
     by_cases Q:j<l.length
     .obtain⟨b1,o1,rfl,_,R,n3,a3,s3,o,f,q,H,IC,I,E,G,F,cz,e0,e1,e2,e3,e4,e5,e6⟩:=(cf.out.2.1 j Q).same (ni A);have ae:=cf.out.2.2 j Q;rw[cz]at ae;obtain⟨es,cS,el,VA,cl⟩:=Ri ae;have ct:R=(l[j]).k:=by
       obtain⟨_,_,_,_,_,_,_,_,_,hv,_⟩:=ae.inv;unfold bg at hv;simp only[qb3,qc1,xj,qg5,true_and]at hv;exact hv.1
      have cT:=eP l[j];have cU:(l[j]).size<=vsizes l:=fO (zj Q);have ar:lam2 l[j]=true:=by have:=cb.out.2;rw[lam2s_all]at this;exact zr.1 this _ (zj Q)
      rw[LC]at ar;simp only[qu]at ar;have cv:=HN.out;have cw:=bf.out;have ah:Hid ((l[j]).k=14->∀W3,P.grownBy W3 none->Calls prog 57 #[bg R n3 a3 s3 o f q H IC I E G F] W3 λe w'=>e =.returned (.bool (jG l[j]))/\W3.grownBy w' none):=λcI W3 h3=>NL ae (by have:=ar.1;rw[jf0 cI]at this;simpa using this) od W3 h3
      have cu:=QD l[j];rw[GN l j Q,cu]at hR;have D:=BV (l.take j) l[j];rw[<-ur Q]at D;have bp:=take_left l j;have an:J.length<=50000000:=by have h1:=d.len;have h2:=ve (M'++pushS (l.take j));rw[gQ]at h2;omega
      have cA:vsizes (l[j]).args<=20000000:=od
      have cm:wr.grownBy (wr.alloc (.cells #[.i R,.i n3,.i a3,.string s3,.slice o f q,.slice H IC I,.slice E G F] 36)) none:=aK _;obtain⟨ba,O,bz,HR,y,Y,ch⟩:=wi (xo b (.cells #[.i R,.i n3,.i a3,.string s3,.slice o f q,.slice H IC I,.slice E G F] 36)) (aJ A cm) (qT wr (.cells #[.i R,.i n3,.i a3,.string s3,.slice o f q,.slice H IC I,.slice E G F] 36)) hR d s ar.2;have Z:Hid (∃a c V,(Value.slice o f q) =.slice a (l[j]).args.length c/\aT (λ_=>True) P (l[j]).args a V/\vsizes (l[j]).args<=20000000):=⟨o,q,VA,by rw[el],cl,cA⟩;obtain⟨aE,HP,cc⟩:=we el D an;have w2:(j:Int)<(l.length:Int):=od
      -- behind what is asked of a lambda
      have K:Hid (∀S,(wr.alloc (.cells #[.i R,.i n3,.i a3,.string s3,.slice o f q,.slice H IC I,.slice E G F] 36)).grownBy S none->(!decide ((l[j]).k=14)||jG l[j])=true->f=0->YY P r M' l (j+1) u5 S):=λS B hm h0=>by
       have hp:pushS (l.take (j+1))=pushS (l.take j):=by rw[HP.out,if_pos (by rw[<-aE.out];exact h0),qe3]
       have hA:(l[j]).args=[]:=ju (by rw[<-aE.out];exact h0);refine⟨J,zp ba.out B (by cases u5.ownBlock<;>simp),by rw[hp];exact y.out,by rw[hp];exact Y.out,?_,aJ O.out B⟩;have h:=HR.out;rw[hm,hA]at h;rw[hp,<-h];simp[lamsFs]
      have L:Hid (∀v9 S,kD P.heap.size S v9 (J++[.slice o f q])->P.grownBy S none->(!decide ((l[j]).k=14)||jG l[j])=true->¬f=0->YY P r M' l (j+1) v9 S):=λv9 S ho B hm h0=>by
       have hp:pushS (l.take (j+1))=pushS (l.take j)++[(l[j]).args]:=by rw[HP.out,if_neg (by rw[<-aE.out];exact h0)]
       refine⟨J++[.slice o f q],ho,by rw[hp,<-ub];exact gM.snoc Z.out y.out,by rw[hp,<-ub,qc6,Y.out];simp[ch.out],?_,B⟩;have h:=HR.out;rw[hm]at h;rw[hp,<-ub,qc6,<-h];simp[Bool.and_assoc,Bool.and_comm,Bool.and_left_comm]
      have bm:Hid ((!decide ((l[j]).k=14)||jG l[j])=false->r=false):=λhm=>by have h:=HR.out;rw[hm]at h;rw[<-h];simp
      clear hR d cl cA cz ae cT cU D bp A b cm es el s ar cu cv cw cS an;rw[<-ct]at ah K L bm;clear ct HR y Y ch Z aE HP;unfold bg at ah;generalize jG l[j]=mb at *;have cX:(R=14/\(R==14)=true)\/(¬R=14/\(R==14)=false):=by
       by_cases h:R=14
       .exact .inl ⟨h,by simpa using h⟩
       .exact .inr ⟨h,by simpa using h⟩
      have ck:P.heap.size<=(wr.alloc (.cells #[.i R,.i n3,.i a3,.string s3,.slice o f q,.slice H IC I,.slice E G F] 36)).heap.size:=O.out.size;have bw:=jh ck;clear ck;rcases cX with⟨rfl,_⟩|⟨z1,de⟩
      .have bh:=jh (ah.out rfl _ O.out);clear ah
       cases mb with
       | false =>
        have HQ:=jh (bm.out ot);clear bm K L;go_wp2_with ((go_at_call 57;with_reducible refine bh.out.mono ?_;rintro e S ⟨rfl,B⟩;have U:=jh (aJ bd.out (aJ O.out B));clear B));go_ret;exact Lf.kZ HQ.out.symm U.out
       | true =>
        by_cases ha:f=0
        .subst ha;go_wp2_with ((go_at_call 57;with_reducible refine bh.out.mono ?_;rintro e S ⟨rfl,B⟩;have X:=jh (K.out _ B ot rfl);obtain⟨c0,c1,c2,c3,c4,c5,c6⟩:=cO (l5 bz.out B);clear B));go_roundw
         case rel=>exact⟨j+1,od,OF,X.out⟩
         case measure=>simp[intOf];omega
        .have cM:(0:Int)<(f:Int):=by omega
         have bj:=jh ha;clear ha;go_wp2_with (first
          | (at_builtin;refine TC P.heap.size J o f q S u5 rfl _ _ rfl rfl rfl ot cd.out bx.out cc.out ?_;intro v' bt aq ak;have X:=jh (L.out v' bt aq (dX U.out cd.out (qv _) ak.1) ot bj.out);clear aq ak)
          | (go_at_call 57;with_reducible refine bh.out.mono ?_;rintro e S ⟨rfl,B⟩;have U:=jh (aJ O.out B);have cd:=jh (zp ba.out B (by cases u5.ownBlock<;>simp));have bx:=jh (kh bw.out B.size);obtain⟨c0,c1,c2,c3,c4,c5,c6⟩:=cO (l5 bz.out B);clear B))
         go_roundw
         case rel=>exact⟨j+1,od,OF,X.out⟩
         case measure=>simp[intOf];omega
      .clear ah
       by_cases ha:f=0
       .subst ha;go_wp2_with fail;go_roundw
        case rel=>exact⟨j+1,od,OF,K.out _ (bM _ _) (by rw[jc2 z1];rfl) rfl⟩
        case measure=>simp[intOf];omega
       .have cM:(0:Int)<(f:Int):=by omega
        have bj:=jh ha;clear ha;go_wp2_with (at_builtin;refine TC P.heap.size J o f q (wr.alloc (.cells #[.i R,.i n3,.i a3,.string s3,.slice o f q,.slice H IC I,.slice E G F] 36)) u5 rfl _ _ rfl rfl rfl ot ba.out bw.out cc.out ?_;intro v' bt aq ak;have X:=jh (L.out v' bt aq (dX O.out ba.out (qv _) ak.1) (by rw[jc2 z1];rfl) bj.out);clear aq ak);go_roundw
        case rel=>exact⟨j+1,od,OF,X.out⟩
        case measure=>simp[intOf];omega
     .have cP:j=l.length:=by omega
      have dc:¬(j:Int)<(l.length:Int):=od
      rw[cP,qe2]at d s hR;rw[List.drop_length]at hR;have cF:Hid (∃m,m<cW/\Wv P r (x.size+1) m u5 wr):=by have h1:=wM l;have h2:=HN.out;have h3:=bf.out;exact⟨nD (M'++pushS l),by rw[gQ];omega,J,M'++pushS l,b,d,rfl,by rw[gQ];omega,s,by simpa[lamsFs]using hR,A⟩
      clear hR d b A s;go_wp2_with fail;obtain⟨m,h1,h2⟩:=cF.out;rw[cE.out]at h1;go_roundw
      case rel=>exact⟨m,h2⟩
      case measure=>exact qf3 (HM.out _ m h2).2 h1
def VJ{T:Ty}{x:Va}(c:okT T)(d:okV x)(hz:x.size<=6000000):Hd ⟨33,[tyA T,pF x],aQ (qC T x)⟩:=jM (bK func33) λok w e h=>by
 match e,h with
 | [u,v],⟨a,b,_⟩=>exact Nq ((jC c a).ae (λ_ _ _=>trivial)) ((mR d b).ae (λ_ _ _=>trivial)) hz w (bM _ _)
def fitsAll:List Ty->List Va->Bool
 | T::s,x::l=>qC T x&&fitsAll s l
 | _,_=>true
def XT (l:List Va) (m:Nat) (x:Va):Prop:=Bp 7 7 (vasD l) m=some (.of (.one (.e (vaD x) 0)))
def PT{l:List Va}{m:Nat}{x:Va}(h:l[m]?=some x):XT l m x:=by unfold XT Bp;rw[vasD_map,qb6,h];cases x;rfl
def qY(l:List Va):(vasD l).length=l.length:=KK
def Yw (s:List Ty) (l:List Va) (j:Nat):St:=[((0,1),.of (dZ s)),((0,24),.of (qi l)),((0,25),lW (vasD l).length),((0,26),.of (jA j))]
def Zv (b:Bool):Nat:=if b then 2 else 1
def Zw (b:Bool):St:=if b then []else [((0,6),aQ false)]
def JQ{s:List Ty}{l:List Va}(A:okTs s)(y:okVs l)(r:s.length=l.length)(D:l.length<=100000)(hz:∀x∈l,x.size<=6000000) :
 ∀(k j:Nat),j+k=l.length->vO prog f27.ntmps ⟨gF f27,Yw s l j,Zv (fitsAll (s.drop j) (l.drop j)),Zw (fitsAll (s.drop j) (l.drop j))⟩:=λk=>by
 induction k with
 | zero =>
  intro j w;have f:=wH (a:=Int.ofNat j) (b:=((vasD l).length:Int)) vl;have v:fitsAll (s.drop j) (l.drop j)=true:=by rw[List.drop_eq_nil_of_le (by omega:l.length<=j)];cases s.drop j<;>rfl
  rw[v];exact xQ (e:=1) [(27,bA false)] [] (al f al0)
 | succ k C =>
  intro j w;have d:j<l.length:=od
  have c:j<s.length:=od
  have f:=is_lt (a:=Int.ofNat j) (b:=((vasD l).length:Int)) vl;have u:=PT (qt d);have B:mD (lW (IntKind.i64.wrap (Int.ofNat j+1))) (jA (j+1)):=yY (zF ot oB oB);have hF:=VJ (okTs_at.1 A _ (zj c)) (okVs_at.1 y _ (zj d)) (hz _ (zj d));have z:=C (j+1) od;rw[qa5 d,qa5 c];have g:∀t a,s[j] =.nd t a->OQ s j t a:=λt a e=>EK (by rw[qt c,e]);simp only[fitsAll];generalize l[j]=x at *;generalize s[j]=T at *;generalize qC T x=b at *;obtain⟨t,a⟩:=T;have g:=g t a rfl;obtain⟨m,n,i,q,o,p,h⟩:=x
  cases b with
  | false =>
   rw[Bool.false_and];exact xQ (e:=0) [(27,bA true),(29,.one (.e (vaD (.mk m n i q o p h)) 0)),(33,.one (.e (tyD (.nd t a)) 0))] [⟨_,hF⟩] (al f (al u (al g al0)))
  | true =>
   rw[je4];exact LG [(27,bA true),(29,.one (.e (vaD (.mk m n i q o p h)) 0)),(33,.one (.e (tyD (.nd t a)) 0)),(38,jA (j+1))] [⟨_,hF⟩] z (al f (al u (al g (al B al0))))
def rW (n:Tr) (s:List Ty) (l:List Va):Bool:=(match codeF n s with
 | .no _=>false
 | .ok _ _=>true)&&decide (l.length=s.length)&&fitsAll s l
def Gm{n:Tr}{s x:List Ty}{f:Bool}(h:codeF n s =.ok f x):s.length<=40:=by
 unfold codeF at h;split at h
 .cases h
 split at h
 .cases h
 split at h
 .cases h
 omega
theorem Pn{n:Tr}{s:List Ty}{l:List Va}(hn:okN n)(hz0:n.size<=4611686018427387904)(hs:okTs s)(hl:okVs l)(hz:∀x∈l,x.size<=6000000)(hE:∀e,codeF n s =.no e->e≠0):Hd ⟨27,[ndA n,dZ s,qi l],aQ (rW n s l)⟩:=by
 have hC:=IY hn hz0 hs;unfold rW;obtain⟨nk,nn,np,nz,na⟩:=n
 cases hc:codeF (.nd nk nn np nz na) s with
 | no e =>
  rw[hc]at hC;have he:=hE e hc;simp only[Bool.false_and];exact runT func27 [(18,bA true)] [⟨_,hC⟩] (ob:=[jJ (!decide (e=0)) true]) (al (eT (by simp[he])) al0)
 | ok f ts =>
  rw[hc]at hC;simp only[je4]
  by_cases hlen:l.length=s.length
  .have hL:=JQ hs hl hlen.symm (by have:=Gm hc;omega) hz l.length 0 (by omega);rw[List.drop_zero,List.drop_zero]at hL;rw[show decide (l.length=s.length)=true by simpa using hlen,je4];generalize fitsAll s l=b at *;have i1:jJ (!decide (((vasD l).length:Int)=((tysD s).length:Int))) false:=eT (by rw[qY,eY];simp[hlen])
   cases b with
   | true=>exact Ce func27 [(23,bA false)] [⟨gF f27,Yw s l 0,2,[]⟩] (by intro x hx;rw[yq]at hx;subst hx;exact hL) [⟨_,hC⟩] (ob:=[jJ (!decide (((vasD l).length:Int)=((tysD s).length:Int))) false]++((gF f27=gF f27)::(Yw s l 0).map (λx=>some x.2=some x.2))) (wI rfl (al i1 al0))
   | false=>exact Ce func27 [(23,bA false)] [⟨gF f27,Yw s l 0,1,[((0,6),aQ false)]⟩] (by intro x hx;rw[yq]at hx;subst hx;exact hL) [⟨_,hC⟩] (ob:=[jJ (!decide (((vasD l).length:Int)=((tysD s).length:Int))) false]++((gF f27=gF f27)::(Yw s l 0).map (λx=>some x.2=some x.2))) (wI rfl (al i1 al0))
  .rw[show decide (l.length=s.length)=false by simpa using hlen,Bool.false_and];have i1:jJ (!decide (((vasD l).length:Int)=((tysD s).length:Int))) true:=eT (by rw[qY,eY];simp;omega);exact runT func27 [(23,bA true)] [⟨_,hC⟩] (ob:=[jJ (!decide (((vasD l).length:Int)=((tysD s).length:Int))) true]) (al i1 al0)
def zL (n:Int):Bool:=decide (0<=n)&&decide (n<12)
def Gb (n:Int):Bool:=decide (0<=n)&&kE n
def Ah (en:En):Bool:=zL en.self&&zL en.sender&&Gb en.amount&&Gb en.balance
def vZ(n:Int)(w:World):Calls prog 49 #[.i n] w λe w'=>e =.returned (.bool (zL n))/\w'=w:=by
 unfold zL
 by_cases h:0<=n
 .have a:decide (0<=n)=true:=by simpa using h
  go_enter func49,ntmps49;go_wp2_with fail;go_ret;exact⟨by rw[a];rfl,rfl⟩
 .have a:decide (0<=n)=false:=by simpa using h
  have b:n<0:=od
  rw[a];go_enter func49,ntmps49;go_wp2_with fail;go_ret;exact⟨rfl,rfl⟩
def xO(n:Int)(w:World):Calls prog 50 #[.i n] w λe w'=>e =.returned (.bool (Gb n))/\w'=w:=by
 unfold Gb;have b:=jh (jI n)
 by_cases h:0<=n
 .have a:decide (0<=n)=true:=by simpa using h
  go_enter func50,ntmps50;go_wp2_with ((go_at_call 78;(with_reducible refine (b.out _).mono ?_);rintro e w' ⟨rfl,rfl⟩));go_ret;exact⟨by rw[a];rfl,rfl⟩
 .have a:decide (0<=n)=false:=by simpa using h
  have c:n<0:=od
  rw[a];go_enter func50,ntmps50;go_wp2_with fail;go_ret;exact⟨rfl,rfl⟩
def DD(en:En)(w:World):Calls prog 26 #[.agg #[.i en.self,.i en.sender,.i en.amount,.i en.balance]] w λe w'=>e =.returned (.bool (Ah en))/\w.grownBy w' none:=by
 unfold Ah;obtain⟨a,b,c,d⟩:=JT (vZ en.self) (vZ en.sender) (xO en.amount) (xO en.balance);generalize zL en.self=f at a|-;generalize zL en.sender=g at b|-;generalize Gb en.amount=h at c|-;generalize Gb en.balance=j at d|-;cases f<;>cases g<;>cases h<;>cases j
 all_goals
  go_enter func26,ntmps26;go_wp2_with (first
   | (go_at_call 49;(with_reducible refine (a.out _).mono ?_);rintro e w' ⟨rfl,rfl⟩)
   | (go_at_call 49;(with_reducible refine (b.out _).mono ?_);rintro e w' ⟨rfl,rfl⟩)
   | (go_at_call 50;(with_reducible refine (c.out _).mono ?_);rintro e w' ⟨rfl,rfl⟩)
   | (go_at_call 50;(with_reducible refine (d.out _).mono ?_);rintro e w' ⟨rfl,rfl⟩))
  go_ret;exact⟨by first|rfl|simp,aK _⟩
noncomputable def Xf (en:En) (aC:Int) (m:Ma):Out:=open Classical in if h:∃N,fq en aC N m ≠ .stuck then fq en aC (Classical.choose h) m else .stuck
def xA{en:En}{aC:Int}{m:Ma}{N:Nat}(h:fq en aC N m ≠ .stuck):Xf en aC m=fq en aC N m:=by
 have b:∃N,fq en aC N m ≠ .stuck:=⟨N,h⟩;unfold Xf;rw[dif_pos b];have c:=Classical.choose_spec b;rcases Nat.le_total (Classical.choose b) N with a|a
 .exact (Ew _ _ c a).symm
 .exact Ew _ _ h a
structure Rs where
 code:Int
 stack:List Va
 said:Va
 aC:Int
 aO:Int
def rsO:Out->Rs
 | .go m=>⟨0,m.st,zeroVa,m.paid,m.aO⟩
 | .no e m=>⟨e,[],if e=10 then m.said else zeroVa,m.paid,0⟩
 | .stuck=>⟨14,[],zeroVa,0,0⟩
noncomputable def Fy (en:En) (n:Tr) (s:List Ty) (l:List Va) (aC:Int):Rs:=if Ah en=true/\rW n s l=true then rsO (Xf en aC (jO l n.args0))else rsO .stuck
def Md{en:En}(h:Ah en=true):yH en:=by simp only[Ah,zL,Gb,kE,qu,ki]at h;simp only[yH,lY,gN,ki];omega
def fitsAll_iff:∀{s:List Ty}{l:List Va},s.length=l.length->(fitsAll s l=true ↔ FitS s l)
 | [],[],_=>by simp[fitsAll,FitS]
 | T::s,x::l,h=>by simp only[fitsAll,FitS,Fit,qu];rw[fitsAll_iff (by simpa using h)]
 | [],_::_,h=>by simp at h
 | _::_,[],h=>by simp at h
def JW{n:Tr}{s:List Ty}{l:List Va} : rW n s l=true ↔ (∃f x,codeF n s =.ok f x)/\FitS s l:=by
 unfold rW
 cases c:codeF n s with
 | no e=>simp
 | ok f x =>
  simp only[je4,qu,ki];constructor
  .rintro⟨a,b⟩;exact⟨⟨f,x,rfl⟩,(fitsAll_iff a.symm).1 b⟩
  .rintro⟨_,h⟩;exact⟨(fitS_len h).symm,(fitsAll_iff (fitS_len h)).2 h⟩
def Cg{en:En}{n:Tr}{s x z:List Ty}{l:List Va}{f:Bool}{aC:Int}(a:yH en)(c:codeF n s =.ok f x)(g:f=false->z=x)(b:z.length<=342)(d:FitS s l)(e:Sm l):∃N,Done aC z (fq en aC N (jO l n.args0)) :=
 VE a b _ _ (Nat.lt_succ_self _) (Gg c g d e)
def uW{aC:Int}{z:List Ty}{o:Out}(h:Done aC z o):o ≠ .stuck:=λe=>by rw[e]at h;exact h
structure Fn (m:Ma):Prop where
 ok:okVs m.st
 st:m.st.length<=50000000
 fr:m.fr.length<=50000000
section
variable {c:Mc}{m:Ma}{p:Int}{ps:Nat->Ma->Prop}
def GZ{a:Va}{s:List Va}(h:(sm m (a::s)).st.length<=50000000):s.length<=50000000:=by simp at h;omega
def OU{a b:Va}{s:List Va}(h:(sm m (a::b::s)).st.length<=50000000):s.length<=50000000:=by simp at h;omega
def Zu{a b d:Va}{s:List Va}(h:(sm m (a::b::d::s)).st.length<=50000000):s.length<=50000000:=by simp at h;omega
def pt (m:Ma) (s l:List Va) (i:Nat) (hk:okVs l) (hne:oH (sm m s) l ≠ .stuck) (hl:s.length<=50000000) (hi:∀x,ps i x->EM (sm m s) x:=by exact λ_ h=>h) (hj:∀x,oP (oH (sm m s) l) x->ps (i+1) x:=by exact λ_ h=>h):{ s:Sp // @Holds (c.res ps) prog s }:=pu (IX (m:=sm m s) (l:=l) 7 hk (.inl rfl) hne hl) i hi hj
def YV (m:Ma) (s:List Va) (k n a:Int) (z:ByteArray) (x y q:Nat) (args:List Va) (types:List Ty) (code:List Tr) (i:Nat) (hk:okV (.mk k n a z args types code)) (h1:x=7\/args=[]) (h2:y=2\/types=[]) (h3:q=5\/code=[]) (hne:oH (sm m s) [.mk k n a z args types code] ≠ .stuck) (hl:s.length<=50000000) (hi:∀x,ps i x->EM (sm m s) x:=by exact λ_ h=>h) (hj:∀x,oP (oH (sm m s) [.mk k n a z args types code]) x->ps (i+1) x:=by exact λ_ h=>h):{ s:Sp // @Holds (c.res ps) prog s }:=pu (SE (m:=sm m s) k n a z x y q args types code hk h1 h2 h3 hne hl) i hi hj
def YB{x y:Va} : bD (gT x y):=by unfold bD;rcases Hq x y with h|h|h<;>omega
def SI(A:p=46\/p=47\/p=48\/p=49\/p=50\/p=51\/p=53\/p=54)(y:Fn m)(e:l8 p m ≠ .stuck):HO c m 120 [iA p] (l8 p m):=by
 obtain⟨m,s,rfl⟩:∃M s,m=sm M s:=⟨m,m.st,rfl⟩;obtain⟨x,f,C⟩:=y;rcases A with rfl|rfl|rfl|rfl|rfl|rfl|rfl|rfl
 rotate_right
 .simp only[l8,↓reduceIte]at e|-;exact eH [] func120 [up H_none,pt m s [noneV] 0 ⟨ok_none,trivial⟩ e f]
 all_goals
  rcases s with _|⟨a,s⟩
  .exact absurd rfl e
  obtain⟨g,B⟩:=x;obtain⟨k,n,i,z,r,t,d⟩:=a
 .rcases s with _|⟨b,s⟩
  .exact absurd rfl e
  simp only[l8,Int.reduceEq,↓reduceIte]at e|-;exact eH [sm m (b::s),sm m s] func120 [tk m (.mk k n i z r t d) (b::s) 0,tk m b s 1,up (pX (.mk k n i z r t d) b),pt m s [aY (.mk k n i z r t d) b] 2 ⟨si g B.1,trivial⟩ e (OU f)]
 .simp only[l8,Int.reduceEq,↓reduceIte]at e|-;exact eH [sm m s] func120 [tk m (.mk k n i z r t d) s 0,pt m s r 1 g.2.1 e (GZ f)]
 .rcases r with _|⟨⟨l,o,j,w,q,v,h⟩,r⟩
  .exact absurd rfl e
  simp only[l8,Int.reduceEq,↓reduceIte]at e|-;exact eH [sm m s] func120 [tk m (.mk k n i z _ t d) s 0,pt m s [.mk l o j w q v h] 1 ⟨g.2.1.1,trivial⟩ e (GZ f)]
 .rcases r with _|⟨u,_|⟨⟨l,o,j,w,q,v,h⟩,r⟩⟩
  .exact absurd rfl e
  .exact absurd rfl e
  simp only[l8,Int.reduceEq,↓reduceIte]at e|-;exact eH [sm m s] func120 [tk m (.mk k n i z _ t d) s 0,pt m s [.mk l o j w q v h] 1 ⟨g.2.1.2.1,trivial⟩ e (GZ f)]
 .simp only[l8,Int.reduceEq,↓reduceIte]at e|-;exact eH [sm m s] func120 [tk m (.mk k n i z r t d) s 0,YV m s 12 0 0 ⟨#[]⟩ 7 0 0 [.mk k n i z r t d] [] [] 1 ⟨⟨i64,i64,i64,ov⟩,⟨g,trivial⟩,trivial,trivial⟩ (.inl rfl) (.inr rfl) (.inr rfl) e (GZ f)]
 .simp only[l8,Int.reduceEq,↓reduceIte]at e|-;exact eH [sm m s] func120 [tk m (.mk k n i z r t d) s 0,YV m s 12 1 0 ⟨#[]⟩ 7 0 0 [.mk k n i z r t d] [] [] 1 ⟨⟨i64,i64,i64,ov⟩,⟨g,trivial⟩,trivial,trivial⟩ (.inl rfl) (.inr rfl) (.inr rfl) e (GZ f)]
 .simp only[l8,Int.reduceEq,↓reduceIte]at e|-;exact eH [sm m s] func120 [tk m (.mk k n i z r t d) s 0,up (mU (.mk k n i z r t d)),pt m s [aV (.mk k n i z r t d)] 1 ⟨pO g,trivial⟩ e (GZ f)]
def Ww(l:p=73\/p=74\/p=75\/p=76\/p=77\/p=78\/p=79)(v:Fn m)(w:∀x∈m.st,x.size<=20000000)(e:xm p m ≠ .stuck):HO c m 125 [iA p] (xm p m):=by
 obtain⟨m,s,rfl⟩:∃M s,m=sm M s:=⟨m,m.st,rfl⟩;obtain⟨u,f,C⟩:=v;rcases s with _|⟨a,s⟩
 .rcases l with rfl|rfl|rfl|rfl|rfl|rfl|rfl<;>exact absurd rfl e
 obtain⟨A,B⟩:=u;obtain⟨k,n,i,z,r,t,d⟩:=a;rcases l with rfl|rfl|rfl|rfl|rfl|l
 .rcases s with _|⟨b,s⟩
  .exact absurd rfl e
  have o:bD (gT (.mk k n i z r t d) b):=YB;simp only[xm,Int.reduceEq,↓reduceIte]at e|-;exact eH [sm m (b::s),sm m s] func125 [tk m (.mk k n i z r t d) (b::s) 0,tk m b s 1,up (Tc A B.1 (w _ (.head _))),up (eU 3 (gT (.mk k n i z r t d) b)),pt m s [aW 3 (gT (.mk k n i z r t d) b)] 2 ⟨oN i64 o,trivial⟩ e (OU f)]
 .exact eH [sm m s] func125 [tk m (.mk k n i z r t d) s 0,up (pJ (decide (n=0))),pt m s [aZ (decide (n=0))] 1 ⟨mP _,trivial⟩ e (GZ f)]
 .exact eH [sm m s] func125 [tk m (.mk k n i z r t d) s 0,up (pJ (decide (n<0))),pt m s [aZ (decide (n<0))] 1 ⟨mP _,trivial⟩ e (GZ f)]
 .simp only[xm,Int.reduceEq,↓reduceIte]at e|-;exact eH [sm m s] func125 [tk m (.mk k n i z r t d) s 0,up (pJ (decide (0<n))),pt m s [aZ (decide (0<n))] 1 ⟨mP _,trivial⟩ e (GZ f)]
 .exact eH [sm m s] func125 [tk m (.mk k n i z r t d) s 0,up (wX (.mk k n i z r t d)),up (pJ (!kJ (.mk k n i z r t d))),pt m s [aZ (!kJ (.mk k n i z r t d))] 1 ⟨mP _,trivial⟩ e (GZ f)]
 rcases s with _|⟨b,s⟩
 .rcases l with rfl|rfl<;>exact absurd rfl e
 have j:=wX (.mk k n i z r t d);have q:=wX b;have g:xm 78 (sm m (.mk k n i z r t d::b::s))=oH (sm m s) [aZ (kJ (.mk k n i z r t d)&&kJ b)]:=rfl;have h:xm 79 (sm m (.mk k n i z r t d::b::s))=oH (sm m s) [aZ (kJ (.mk k n i z r t d)||kJ b)]:=rfl;rcases l with rfl|rfl
 all_goals
  first|rw[g]at e|- | rw[h]at e|-
  clear g h;generalize kJ (.mk k n i z r t d)=x at j e|-;generalize kJ b=y at q e|-;cases x
 .exact eH [sm m (b::s),sm m s] func125 [tk m (.mk k n i z r t d) (b::s) 0,tk m b s 1,up j,up (pJ false),pt m s [aZ false] 2 ⟨mP _,trivial⟩ e (OU f)]
 .exact eH [sm m (b::s),sm m s] func125 [tk m (.mk k n i z r t d) (b::s) 0,tk m b s 1,up j,up q,up (pJ y),pt m s [aZ y] 2 ⟨mP _,trivial⟩ e (OU f)]
 .exact eH [sm m (b::s),sm m s] func125 [tk m (.mk k n i z r t d) (b::s) 0,tk m b s 1,up j,up q,up (pJ y),pt m s [aZ y] 2 ⟨mP _,trivial⟩ e (OU f)]
 .exact eH [sm m (b::s),sm m s] func125 [tk m (.mk k n i z r t d) (b::s) 0,tk m b s 1,up j,up (pJ true),pt m s [aZ true] 2 ⟨mP _,trivial⟩ e (OU f)]
end
def tl (b v:Bool):Prop:=some (aQ b)=some (.of (bA v))
def zZ{b v:Bool}(h:b=v):tl b v:=by rw[h];rfl
def fE{b v:Bool}(h:b=v):∀p∈[tl b v],p:=by simp[zZ h]
def sM{b v a c:Bool}(h:b=v)(d:a=c):∀p∈[tl b v,tl a c],p:=by simp[zZ h,zZ d]
def IC{b v a d c e:Bool}(h:b=v)(f:a=d)(g:c=e):∀p∈[tl b v,tl a d,tl c e],p:=by simp[zZ h,zZ f,zZ g]
def df{p:Prop}[Decidable p](h:¬p):decide p=false:=jc2 h
def dt{p:Prop}[Decidable p](h:p):decide p=true:=jf0 h
def nt{p:Prop}[Decidable p](h:¬p):(!decide p)=true:=by simp[h]
section
variable {c:Mc}{m:Ma}{p:Int}{ps:Nat->Ma->Prop}
theorem AP{K:Int}{l:List Va}(hK:bD K)(hk:okVs l)(hne:jP m K l ≠ .stuck)(hlen:m.st.length<=50000000):HO c m 162 [iA K,qi l] (jP m K l):=by
 have hl:(vasD l).length=l.length:=by simp[vasD_map]
 by_cases h:24<l.length
 .have e:jP m K l =.no 13 m:=by unfold jP;rw[if_pos h]
  rw[e];exact Ol [] [(9,bA true)] func162 [] (ob:=[tl (decide ((24:Int)<((vasD l).length:Nat))) true]) (fE (dt (by omega))) (λx hx=>by cases hx;exact⟨by decide,rfl,rfl⟩)
 .have e:jP m K l=oH m [mkV K l]:=by unfold jP;rw[if_neg h]
  rw[e]at hne|-;exact sI [] [(9,bA false)] func162 [up (EA K l),pt m m.st [mkV K l] 0 ⟨BK hK hk,trivial⟩ hne hlen] (ob:=[tl (decide ((24:Int)<((vasD l).length:Nat))) false]) (fE (df (by omega)))
def Xr{l r:List Va}{x:Va}(a:okVs l)(c:okV x)(d:okVs r):okVs (uO l x r):=okVs_at.2 λy b=>by
 unfold uO at b;rcases qa0.1 b with h|h
 .exact okVs_at.1 a y (qf2 h)
 .rcases qa0.1 h with h|h
  .obtain⟨z,hz,rfl⟩:=qa7.1 h;exact si c (okVs_at.1 d z hz)
  .exact okVs_at.1 a y (ja3 h)
def Mo{HU:∀l x r,okVs l->okV x->okVs r->r.length<=1->vsizes l<=9000000->risesF l=true->Hd ⟨165,[qi l,pF x,qi r],.of (qi (uO l x r))⟩}
 (O:p=56\/p=57\/p=59\/p=61\/p=62\/p=63) (hf:Fn m) (hz:∀x∈m.st,x.size<=9000000/\x.s.size<=10000000) (h63:p=63->∀a b d s,m.st=a::b::d::s->b.args.length<=1) (hne:il p m ≠ .stuck):HO c m 121 [iA p] (il p m):=by
 obtain⟨m,s,rfl⟩:∃M s,m=sm M s:=⟨m,m.st,rfl⟩;obtain⟨Q,L,h3⟩:=hf;have N:∀l:List Va,(vasD l).length=l.length:=λl=>KK
 rcases O with rfl|rfl|rfl|rfl|rfl|rfl
 .simp only[il,↓reduceIte]at hne|-;exact eH [] func121 [up (EB 10),pt m s [mkV 10 []] 0 ⟨BK i64 trivial,trivial⟩ hne L]
 .rcases s with _|⟨a,_|⟨b,s⟩⟩
  .exact absurd rfl hne
  .exact absurd rfl hne
  obtain⟨I,H,T⟩:=Q;have J:=hz b (.tail _ (.head _));obtain⟨k,n,i,z,r,t,d⟩:=a;obtain⟨o,n1,j,w,f,v,g⟩:=b;have hl:f.length<=10000000:=by have:=len_vsizes f;have:=J.1;simp only[Va.size]at this;omega
  simp only[il,Int.reduceEq,↓reduceIte]at hne|-;exact eH [sm m (.mk o n1 j w f v g::s),sm m s] func121 [tk m (.mk k n i z r t d) (.mk o n1 j w f v g::s) 0,tk m (.mk o n1 j w f v g) s 1,up (Da (m:=7) (n:=7) (l:=[.mk k n i z r t d]) (r:=f) ⟨I,trivial⟩ H.2.1 (.inl rfl) (.inl rfl) oB),pu (AP (m:=sm m s) (K:=10) (l:=.mk k n i z r t d::f) i64 ⟨I,H.2.1⟩ hne (OU L)) 2]
 .rcases s with _|⟨a,s⟩
  .exact absurd rfl hne
  obtain⟨I,H⟩:=Q;have J:=hz a (.head _);obtain⟨k,n,i,z,r,t,d⟩:=a;have hl:=N r;have aa:r.length<=10000000:=by have:=len_vsizes r;have:=J.1;simp only[Va.size]at this;omega
  have ab:z.size<=10000000:=J.2;simp only[il,Int.reduceEq,↓reduceIte]at hne|-;exact sI [sm m s] [(39,iA ((z.size+r.length:Nat):Int))] func121 [tk m (.mk k n i z r t d) s 0,up (eU 4 ((z.size+r.length:Nat):Int)),pt m s [aW 4 ((z.size+r.length:Nat):Int)] 1 ⟨oN i64 vf,trivial⟩ hne (GZ L)]
   (ob:=[some (lW (IntKind.i64.wrap ((z.size:Int)+((vasD r).length:Int))))=some (.of (iA ((z.size+r.length:Nat):Int)))]) (by intro p O;rw[yq.1 O,hl,show (z.size:Int)+(r.length:Int)=((z.size+r.length:Nat):Int) by omega,YX _ od];rfl)
 .simp only[il,Int.reduceEq,↓reduceIte]at hne|-;exact eH [] func121 [up (EB 13),pt m s [mkV 13 []] 0 ⟨BK i64 trivial,trivial⟩ hne L]
 .rcases s with _|⟨a,_|⟨b,s⟩⟩
  .exact absurd rfl hne
  .exact absurd rfl hne
  obtain⟨I,H,T⟩:=Q;have J:=hz b (.tail _ (.head _));obtain⟨o,n1,j,w,f,v,g⟩:=b;have hR:risesF f=true:=by
   cases h:risesF f with
   | true=>rfl
   | false=>exact absurd (by simp only[il,Va.args,Int.reduceEq,↓reduceIte,h];rfl) hne
  have R:=FN H.2.1 I (by have:=J.1;simp only[Va.size]at this;omega) hR;have e:il 62 (sm m (a :: .mk o n1 j w f v g::s))=if fJ f a=true then (match f[kz f a]? with
   | some x=>(match x.args with
    | _::y::_=>oH (sm m s) [aV y]
    | _=>.stuck)
   | none=>.stuck)else oH (sm m s) [noneV]:=by simp only[il,Va.args,Int.reduceEq,↓reduceIte,hR];rfl
  rw[e]at hne|-;clear e
  cases hF:fJ f a with
  | false =>
   rw[hF]at hne R;simp only[qg4,↓reduceIte]at hne|-;exact eH [sm m (.mk o n1 j w f v g::s),sm m s] func121 [tk m a (.mk o n1 j w f v g::s) 0,tk m (.mk o n1 j w f v g) s 1,up R,up H_none,pt m s [noneV] 2 ⟨ok_none,trivial⟩ hne (OU L)]
  | true =>
   rw[hF]at hne R;simp only[↓reduceIte]at hne|-
   cases S:f[kz f a]? with
   | none=>rw[S]at hne;exact absurd rfl hne
   | some q =>
    rw[S]at hne;have Y:=okVs_at.1 H.2.1 q (qa1 S);have hi:Bp 7 7 (vasD f) (kz f a)=some (.of (.one (.e (vaD q) 0))):=by unfold Bp;rw[vasD_map,qb6,S];obtain⟨X,nq,W,zq,P,Z,U⟩:=q;rfl
    obtain⟨X,nq,W,zq,P,Z,U⟩:=q;rcases P with _|⟨u,_|⟨⟨D,E,C,G,A,F,B⟩,P⟩⟩
    .exact absurd rfl hne
    .exact absurd rfl hne
    simp only at hne|-;exact sI [sm m (.mk o n1 j w f v g::s),sm m s] [(79,.one (.e (vaD (.mk X nq W zq (u :: .mk D E C G A F B::P) Z U)) 0))] func121 [tk m a (.mk o n1 j w f v g::s) 0,tk m (.mk o n1 j w f v g) s 1,up R,up (mU (.mk D E C G A F B)),pt m s [aV (.mk D E C G A F B)] 2 ⟨pO Y.2.1.2.1,trivial⟩ hne (OU L)]
     (ob:=[Bp 7 7 (vasD f) (kz f a)=some (.of (.one (.e (vaD (.mk X nq W zq (u :: .mk D E C G A F B::P) Z U)) 0)))]) (λp O=>by rw[yq.1 O];exact hi)
 .rcases s with _|⟨a,_|⟨b,_|⟨d,s⟩⟩⟩
  .exact absurd rfl hne
  .exact absurd rfl hne
  .exact absurd rfl hne
  obtain⟨I,H,T,q4⟩:=Q;have J:=hz d (.tail _ (.tail _ (.head _)));have hR:risesF d.args=true:=by
   cases h:risesF d.args with
   | true=>rfl
   | false=>exact absurd (by simp only[il,Int.reduceEq,↓reduceIte,h];rfl) hne
  have V:=h63 rfl a b d s rfl;have e:il 63 (sm m (a::b::d::s))=jP (sm m s) 13 (uO d.args a b.args):=by simp only[il,Int.reduceEq,↓reduceIte,hR]
  rw[e]at hne|-;obtain⟨o,n1,j,w,f,v,g⟩:=b;obtain⟨D,E,C,G,A,F,B⟩:=d;exact eH [sm m (.mk o n1 j w f v g :: .mk D E C G A F B::s),sm m (.mk D E C G A F B::s),sm m s] func121 [tk m a (.mk o n1 j w f v g :: .mk D E C G A F B::s) 0,tk m (.mk o n1 j w f v g) (.mk D E C G A F B::s) 1,tk m (.mk D E C G A F B) s 2,
   up (HU A a f T.2.1 I H.2.1 V (by have:=J.1;simp only[Va.size]at this;omega) hR),pu (AP (m:=sm m s) (K:=13) (l:=uO A a f) i64 (Xr T.2.1 I H.2.1) hne (Zu L)) 3]
def pI{K n e:Int}(f:bD K)(g:bD n)(b:oV m K (n,e) ≠ .stuck)(a:m.st.length<=50000000):HO c m 168 [iA K,iA n,iA e] (oV m K (n,e)):=by
 by_cases h:e=0
 .subst h;simp only[oV,↓reduceIte]at b|-;exact eH [] func168 [up (eU K n),pt m m.st [aW K n] 0 ⟨oN f g,trivial⟩ b a]
 .have d:oV m K (n,e) =.no e m:=by unfold oV;rw[if_neg h]
  rw[d];exact Ol [] [(10,bA true)] func168 [] (fE (nt h)) (λx i=>by cases i;exact⟨h,rfl,rfl⟩)
def SK{a b:Int}(c:kE a=true)(d:kE b=true)(h:b=0):Hd ⟨199,[iA a,iA b],.rz [iA 0,iA 0,iA 6]⟩:=by have:=Pd a b c d;simp only[h,↓reduceIte]at this|-;exact this
def wV{a b:Int}(c:kE a=true)(d:kE b=true)(h:b≠0):Hd ⟨199,[iA a,iA b],.rz [iA (a / b),iA (a % b),iA 0]⟩:=by have:=Pd a b c d;simp only[h,↓reduceIte]at this|-;exact this
def Xb{a b:Int}(c:kE a=true)(d:kE b=true)(h:b≠0):bD (a / b)/\bD (a % b):=by have e:=gK c;have f:=gK d;have g:=R4 a h;have i:=Cs a h;unfold bD;omega
def Mm{a b:Va}(l:kE a.n=true)(o:kE b.n=true)(g:Gu m a b ≠ .stuck)(j:m.st.length<=50000000):HO c m 169 [pF a,pF b] (Gu m a b):=by
 obtain⟨k,n,i,z,r,t,d⟩:=a;obtain⟨p,f,w,C,A,B,v⟩:=b;have l:kE n=true:=l;have o:kE f=true:=o
 by_cases h:f=0
 .have e:Gu m (.mk k n i z r t d) (.mk p f w C A B v)=oH m [noneV]:=by subst h;simp[Gu,Va.n,l,o]
  rw[e]at g|-;exact eH [] func169 [up (SK l o h),up H_none,pt m m.st [noneV] 0 ⟨ok_none,trivial⟩ g j]
 .have e:Gu m (.mk k n i z r t d) (.mk p f w C A B v)=oH m [aV (aY (aW (rH k p).1 (n / f)) (aW (rH k p).2 (n % f)))]:=by simp[Gu,Va.n,Va.k,l,o,h]
  rw[e]at g|-;obtain⟨F,G⟩:=Xb l o h;clear e;have ok:∀x y:Int,bD x->bD y->okVs [aV (aY (aW x (n / f)) (aW y (n % f)))]:=λx y D E=>⟨pO (si (oN D F) (oN E G)),trivial⟩
  by_cases s:k=5
  .subst s
   by_cases q:p=5
   .subst q;simp only[rH,and_self,↓reduceIte]at g|-;exact eH [] func169 [up (wV l o h),up (eU 4 (n / f)),up (eU 5 (n % f)),up (pX (aW 4 (n / f)) (aW 5 (n % f))),up (mU (aY (aW 4 (n / f)) (aW 5 (n % f)))),pt m m.st [aV (aY (aW 4 (n / f)) (aW 5 (n % f)))] 0 (ok _ _ i64 i64) g j]
   .have e:rH 5 p=(5,5):=by simp[rH,q]
    rw[e]at g|-;exact sI [] [(39,bA false)] func169 [up (wV l o h),up (eU 5 (n / f)),up (eU 5 (n % f)),up (pX (aW 5 (n / f)) (aW 5 (n % f))),up (mU (aY (aW 5 (n / f)) (aW 5 (n % f)))),pt m m.st [aV (aY (aW 5 (n / f)) (aW 5 (n % f)))] 0 (ok _ _ i64 i64) g j] (fE (df q))
  .by_cases u:k=4
   .subst u
    by_cases q:p=4
    .subst q;simp only[rH,Int.reduceEq,and_self,↓reduceIte]at g|-;exact eH [] func169 [up (wV l o h),up (eU 4 (n / f)),up (eU 4 (n % f)),up (pX (aW 4 (n / f)) (aW 4 (n % f))),up (mU (aY (aW 4 (n / f)) (aW 4 (n % f)))),pt m m.st [aV (aY (aW 4 (n / f)) (aW 4 (n % f)))] 0 (ok _ _ i64 i64) g j]
    .have e:rH 4 p=(3,4):=by simp[rH,q]
     rw[e]at g|-;exact sI [] [(52,bA false)] func169 [up (wV l o h),up (eU 3 (n / f)),up (eU 4 (n % f)),up (pX (aW 3 (n / f)) (aW 4 (n % f))),up (mU (aY (aW 3 (n / f)) (aW 4 (n % f)))),pt m m.st [aV (aY (aW 3 (n / f)) (aW 4 (n % f)))] 0 (ok _ _ i64 i64) g j] (fE (df q))
   .have e:rH k p=(3,4):=by simp[rH,s,u]
    rw[e]at g|-;exact sI [] [(35,bA false),(44,bA false),(48,bA false)] func169 [up (wV l o h),up (eU 3 (n / f)),up (eU 4 (n % f)),up (pX (aW 3 (n / f)) (aW 4 (n % f))),up (mU (aY (aW 3 (n / f)) (aW 4 (n % f)))),pt m m.st [aV (aY (aW 3 (n / f)) (aW 4 (n % f)))] 0 (ok _ _ i64 i64) g j] (IC (df s) (df s) (df u))
def Mq{a b:Int}(e:p=69\/p=70\/p=71)(c:kE a=true)(d:kE b=true):Hd ⟨170,[iA p,iA a,iA b],OG (iU p a b)⟩:=by
 rcases e with rfl|rfl|rfl
 .exact aF func170 [⟨_,VI a b⟩]
 .exact aF func170 [⟨_,X8 a b⟩]
 .exact aF func170 [⟨_,X6 a b c d⟩]
def Ph{a b:Int}(f:p=69\/p=70\/p=71):Hd ⟨171,[iA p,iA a,iA b],.of (iA (mK p a b))⟩:=by
 by_cases d:a=5
 .subst d;rcases f with rfl|rfl|rfl<;>exact aF func171 []
 by_cases c:b=5
 .subst c;have e:mK p a 5=5:=by simp[mK]
  rw[e];rcases f with rfl|rfl|rfl<;>exact runT func171 [(9,bA false)] [] (fE (df d))
 by_cases g:a=4
 .subst g
  by_cases h:b=4
  .subst h;rcases f with rfl|rfl|rfl<;>exact aF func171 []
  .have e:mK p 4 b=3:=by simp[mK,c,h]
   rw[e];rcases f with rfl|rfl|rfl
   .exact runT func171 [(12,bA false),(23,bA false)] [] (sM (df c) (df h))
   .exact runT func171 [(12,bA false)] [] (fE (df c))
   .exact runT func171 [(12,bA false),(23,bA false)] [] (sM (df c) (df h))
 .have e:mK p a b=3:=by simp[mK,d,c,g]
  rw[e];rcases f with rfl|rfl|rfl
  .exact runT func171 [(9,bA false),(12,bA false),(19,bA false)] [] (IC (df d) (df c) (df g))
  .exact runT func171 [(9,bA false),(12,bA false)] [] (sM (df d) (df c))
  .exact runT func171 [(9,bA false),(12,bA false),(19,bA false)] [] (IC (df d) (df c) (df g))
def Xn{p a b:Int} : bD (mK p a b):=by
 unfold mK;split
 .exact i64
 .split<;>exact i64
def QB{r:Int} : bD (kF r).1:=by
 unfold kF;split
 .rename_i h;have:=gK h;unfold bD;omega
 .exact i64
def Ru{a b:Int} : bD (iU p a b).1:=by
 unfold iU addN Iu mulN
 repeat' split
 all_goals first|exact QB|exact i64
def Yk{a:Int} : bD (EJ a).1:=by
 unfold EJ;split
 .rename_i h;have:=gK h;unfold bD;show _/\_;simp only;omega
 .exact i64
def Mr(D:p=69\/p=70\/p=71\/p=72\/p=93\/p=94\/p=95)(U:Fn m)(T:(p=69\/p=70\/p=71\/p=72)->∀a b s,m.st=a::b::s->kE a.n=true/\kE b.n=true)(f:gL p m ≠ .stuck):HO c m 124 [iA p] (gL p m):=by
 obtain⟨m,s,rfl⟩:∃M s,m=sm M s:=⟨m,m.st,rfl⟩;obtain⟨S,Q,V⟩:=U;rcases s with _|⟨a,s⟩
 .exact absurd rfl f
 obtain⟨R,W⟩:=S;obtain⟨k,n,i,z,r,t,d⟩:=a;have B:=GZ Q
 by_cases F:p=93
 .subst F;simp only[gL,↓reduceIte]at f|-;exact eH [sm m s] func124 [tk m (.mk k n i z r t d) s 0,up (X3 n),pu (pI (m:=sm m s) (K:=4) (n:=(EJ n).1) (e:=(EJ n).2) i64 Yk f B) 1]
 by_cases G:p=94
 .subst G
  by_cases h:n<0
  .have e:gL 94 (sm m (.mk k n i z r t d::s))=oH (sm m s) [noneV]:=by simp[gL,Va.n,h]
   rw[e]at f|-;exact sI [sm m s] [(30,bA true)] func124 [tk m (.mk k n i z r t d) s 0,up H_none,pt m s [noneV] 1 ⟨ok_none,trivial⟩ f B] (fE (dt h))
  .have e:gL 94 (sm m (.mk k n i z r t d::s))=oH (sm m s) [aV (aW 4 n)]:=by simp[gL,Va.n,h]
   rw[e]at f|-;exact sI [sm m s] [(30,bA false)] func124 [tk m (.mk k n i z r t d) s 0,up (eU 4 n),up (mU (aW 4 n)),pt m s [aV (aW 4 n)] 1 ⟨pO (oN i64 R.1.2.1),trivial⟩ f B] (fE (df h))
 by_cases H:p=95
 .subst H;simp only[gL,Int.reduceEq,↓reduceIte]at f|-;exact eH [sm m s] func124 [tk m (.mk k n i z r t d) s 0,up (eU 3 n),pt m s [aW 3 n] 1 ⟨oN i64 R.1.2.1,trivial⟩ f B]
 replace D:p=69\/p=70\/p=71\/p=72:=od
 rcases s with _|⟨b,s⟩
 .rcases D with rfl|rfl|rfl|rfl<;>exact absurd rfl f
 obtain⟨O,P⟩:=T D _ b s rfl;obtain⟨o,l,u,x,v,w,q⟩:=b;replace B:=OU Q
 by_cases E:p=72
 .subst E;simp only[gL,Int.reduceEq,↓reduceIte]at f|-;exact eH [sm m (.mk o l u x v w q::s),sm m s] func124 [tk m (.mk k n i z r t d) (.mk o l u x v w q::s) 0,tk m (.mk o l u x v w q) s 1,pu (Mm (m:=sm m s) O P f B) 2]
 replace D:p=69\/p=70\/p=71:=od
 have I:=Ph (a:=k) (b:=o) D;have C:=Mq D O P;have A:=Ru (p:=p) (a:=n) (b:=l)
 by_cases N:p=70/\k=5
 .obtain⟨rfl,rfl⟩:=N;have e:gL 70 (sm m (.mk 5 n i z r t d :: .mk o l u x v w q::s))=oH (sm m s) [if (iU 70 n l).1<0 then noneV else aV (aW 5 (iU 70 n l).1)]:=by simp only[gL,Va.n,Va.k,Int.reduceEq,↓reduceIte,and_self];rfl
  rw[e]at f|-;clear e I;simp only[Va.n]at C;generalize iU 70 n l=g at f C A|-
  by_cases h:g.1<0
  .simp only[h,↓reduceIte]at f|-;exact sI [sm m (.mk o l u x v w q::s),sm m s] [(76,bA true)] func124 [tk m (.mk 5 n i z r t d) (.mk o l u x v w q::s) 0,tk m (.mk o l u x v w q) s 1,up C,up H_none,pt m s [noneV] 2 ⟨ok_none,trivial⟩ f B] (fE (dt h))
  .simp only[h,↓reduceIte]at f|-;exact sI [sm m (.mk o l u x v w q::s),sm m s] [(76,bA false)] func124 [tk m (.mk 5 n i z r t d) (.mk o l u x v w q::s) 0,tk m (.mk o l u x v w q) s 1,up C,up (eU 5 g.1),up (mU (aW 5 g.1)),pt m s [aV (aW 5 g.1)] 2 ⟨pO (oN i64 A),trivial⟩ f B] (fE (df h))
 .have e:gL p (sm m (.mk k n i z r t d :: .mk o l u x v w q::s))=oV (sm m s) (mK p k o) (iU p n l):=by simp only[gL,F,G,H,E,N,↓reduceIte,Va.n,Va.k]
  rw[e]at f|-;clear e;have y:=Xn (p:=p) (a:=k) (b:=o);simp only[Va.n]at C;generalize iU p n l=g at f C A|-;generalize mK p k o=j at f I y|-;obtain⟨J,L⟩:=g;rcases D with rfl|rfl|rfl
  .exact eH [sm m (.mk o l u x v w q::s),sm m s] func124 [tk m (.mk k n i z r t d) (.mk o l u x v w q::s) 0,tk m (.mk o l u x v w q) s 1,up C,up I,pu (pI (m:=sm m s) (K:=j) (n:=J) (e:=L) y A f B) 2]
  .exact sI [sm m (.mk o l u x v w q::s),sm m s] [(73,bA false)] func124 [tk m (.mk k n i z r t d) (.mk o l u x v w q::s) 0,tk m (.mk o l u x v w q) s 1,up C,up I,pu (pI (m:=sm m s) (K:=j) (n:=J) (e:=L) y A f B) 2] (fE (df (λh=>N ⟨rfl,h⟩)))
  .exact eH [sm m (.mk o l u x v w q::s),sm m s] func124 [tk m (.mk k n i z r t d) (.mk o l u x v w q::s) 0,tk m (.mk o l u x v w q) s 1,up C,up I,pu (pI (m:=sm m s) (K:=j) (n:=J) (e:=L) y A f B) 2]
end
