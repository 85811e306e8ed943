import Derived.Test.YtgfdimkbfnpepaaGreatKtZao
import Derived.RangeFuncNested
import Derived.RangeFuncBound
import Derived.RangeFuncCalls
import Derived.RangeFuncLeaves
import Derived.RangeFuncBox
import Derived.Shelf.Abstract
import Derived.Shelf.RegionOpen
import Derived.OwnWalkIn
import Derived.TacticsInMore
import Derived.LoopNIn
import Derived.LoopIn
namespace Go.Proofs.YtgfdimkbfnpepaaGreat
set_option linter.all false
open Go.Proofs.Tryz
open Go.ChangeShapes Go.WideShapes Go.ChangeAt Go.RowKit
set_option maxRecDepth 100000
set_option maxHeartbeats 100000000
section
variable {B:Nat}{O:br}{w:bx}{mb:Nat}{en:En}{aC:Int}{m:Ma}
def bU.paid{O:br}{m:Ma}{k n a:Int}{s:bo}{v:bj}{al ac:Nat}{ta:bj}{tl tc:Nat}{na:bj}{x nc:Nat}{c p:cg}{us o:bk}(h:bU B O w mb en aC m k n a s v al ac ta tl tc na x nc c p us o)(q:Int)(u:bD q) :
 bU B O (w.setCell ⟨mb,5,none⟩ (.i q)) mb en aC { m with paid:=q } k n a s v al ac ta tl tc na x nc c p us o:=by
 have j:cm w (w.setCell ⟨mb,5,none⟩ (.i q)) (some mb):=dY (bM _ _) _ _ _;have r:dB O w O (w.setCell ⟨mb,5,none⟩ (.i q)):=dB.ofRow j (λg e=>by cases e;exact h.mine.1);have f:∀g,O g->g≠mb->(w.setCell ⟨mb,5,none⟩ (.i q)).heap[g]?=w.heap[g]?:=λg d t=>j.block g (h.high g d) (by simpa using t);have z:∀g,c.ownBlock=some g->g≠mb:=λg e l=>aD h.jL.own h.blk ov (by rw[e,l]);have A:∀g,p.ownBlock=some g->g≠mb:=λg e l=>aD h.own h.blk ov (by rw[e,l]);have y:∀g∈keptBs m.fr.reverse o,g≠mb:=λg j=>by have⟨_,cs,u⟩:=h.sZ.mine g j;exact dC u h.blk ov
 refine⟨(nG h.blk c).2.2.1 q,r.lies h.said,h.jL.kept r λg e=>⟨h.jL.mine g e,f g (h.jL.mine g e) (z g e)⟩,iT h.own λg e=>f g (h.mine.2 g e) (A g e),h.sZ.kept r λg e=>⟨(h.sZ.mine g e).1,f g (h.sZ.mine g e).1 (y g e)⟩,h.nodup,h.mine,h.low,λb d=>?_,⟨u,h.num.2⟩⟩
 by_cases e:b=mb
 .subst e;exact⟨_,_,(nG h.blk c).2.2.1 q⟩
 .rw[f b d e];exact h.cells b d
def jK (B:Nat) (O:br) (w:bx) (mb:Nat) (en:En) (aC:Int) (o:Out) (e:Ending) (w':bx):Prop:=∃O',dB O w O' w'/\match o with
 | .go m=>e =.returned (.i 0)/\dm B O' w' mb en aC m
 | .no er m=>er≠0/\e =.returned (.i er)/\∃m',m'.paid=m.paid/\m'.said=m.said/\dm B O' w' mb en aC m'
 | .stuck=>False
def dm.grow{w':bx}(h:dm B O w mb en aC m)(b:cm w w' none):dm B O w' mb en aC m:=by have⟨k,n,a,s,aa,al,ac,ta,tl,tc,na,nl,nc,sv,fv,us,fs,h⟩:=h;exact⟨k,n,a,s,aa,al,ac,ta,tl,tc,na,nl,nc,sv,fv,us,fs,h.grow b⟩
def dm.turn{w':bx}{row:Option Nat}(h:dm B O w mb en aC m)(b:cm w w' row)(c:∀r,row=some r->¬fe w r/\¬O r):dm B O w' mb en aC m:=by have⟨k,n,a,s,aa,al,ac,ta,tl,tc,na,nl,nc,sv,fv,us,fs,h⟩:=h;exact⟨k,n,a,s,aa,al,ac,ta,tl,tc,na,nl,nc,sv,fv,us,fs,h.turn b c⟩
def dm.cells(h:dm B O w mb en aC m):∀b,O b->∃cs e,w.heap[b]?=some (.cells cs e):=by have⟨k,n,a,s,aa,al,ac,ta,tl,tc,na,nl,nc,sv,fv,us,fs,h⟩:=h;exact h.cells
def dm.no{r:Nat}(h:dm B O w mb en aC m)(b:∃o:Obj,w.heap[r]?=some o/\o.isCells=false):¬fe w r/\¬O r:=by refine⟨DZ b,λc=>?_⟩;have⟨cs,e,f⟩:=h.cells r c;have⟨o,a,d⟩:=b;rw[f]at a;cases a;cases d
def dm.high(h:dm B O w mb en aC m):∀b,O b->b<w.heap.size:=by have⟨k,n,a,s,aa,al,ac,ta,tl,tc,na,nl,nc,sv,fv,us,fs,h⟩:=h;exact h.high
def Ff(h:dm B O w mb en aC m):Calls prog 116 #[.po mb] w (jK B O w mb en aC (uH aC m .go)):=by
 have i:=jh h;have⟨k,n,a,s,aa,al,ac,ta,tl,tc,na,nl,nc,sv,fv,us,fs,h⟩:=h;have l:=h.num;unfold bD at l;have HM:=jh h;have K:=λ(w':bx) (h:cm w w' none)=>iM (l5 HM.blk h);have d:cm w w none:=bM _ _;have b:=jh (fK d);clear h
 by_cases f:m.paid ≥ aC
 .have c:Hid (uH aC m .go =.no 12 m):=by show _=_;unfold uH;rw[if_pos f]
  go_enter func116,ntmps116;go_wp2_with fail;go_region_held3 (λw'=>cm w w' none) (first|with_reducible assumption|with_reducible exact fK oS) (fail);go_wp2;go_ret;rw[c.out];exact⟨O,dB.grow b.out,ov,rfl,m,rfl,rfl,i.out.grow b.out⟩
 .have o:wrap64 (m.paid+1)=m.paid+1:=by unfold wrap64;omega
  have c:Hid (uH aC m .go =.go { m with paid:=m.paid+1 }):=by show _=_;unfold uH;rw[if_neg f]
  go_enter func116,ntmps116;go_wp2_with fail;go_region_held3 (λw'=>cm w w' none) (first|with_reducible assumption|with_reducible exact fK oS) (fail);go_wp2;go_ret;rw[c.out];have j:=(HM.out.grow b.out).paid (m.paid+1) vm;exact⟨O,(dB.grow b.out).trans (dB.ofRow (dY (bM _ _) _ _ _) (λg e=>by cases e;exact HM.out.mine.1)),rfl,_,_,_,_,_,_,_,_,_,_,_,_,_,_,_,_,_,j⟩
def kc{w w':bx}{r:Option Nat}{b o:Nat}{v:cg}(h:w.cell? ⟨b,o,none⟩=some v)(a:cm w w' r)(c:some b≠r):w'.cell? ⟨b,o,none⟩=some v:=(qt (a.block b (zv w _ h) c)).trans h
def kb{w w':bx}{r:Option Nat}{b:Nat}{o:Obj}(h:w.heap[b]?=some o)(a:cm w w' r)(c:some b≠r):w'.heap[b]?=some o:=(a.block b (qq.1 h).1 c).trans h
def C7 (w:bx) (g o:Nat) (k n a:Int) (s:bo) (aa:bj) (al ac:Nat) (ta:bj) (tl tc:Nat) (na:bj) (nl nc:Nat):Prop :=
 w.cell? ⟨g,o,none⟩=some (.i k)/\w.cell? ⟨g,o+1,none⟩=some (.i n)/\w.cell? ⟨g,o+2,none⟩=some (.i a)/\w.cell? ⟨g,o+3,none⟩=some (.string s)/\w.cell? ⟨g,o+4,none⟩=some (.slice aa al ac)/\w.cell? ⟨g,o+5,none⟩=some (.slice ta tl tc)/\w.cell? ⟨g,o+6,none⟩=some (.slice na nl nc)
def C7.keep{w w':bx}{r:Option Nat}{g o:Nat}{k n a:Int}{s:bo}{d:bj}{al ac:Nat}{ta:bj}{tl tc:Nat}{na:bj}{e nc:Nat}(h:C7 w g o k n a s d al ac ta tl tc na e nc)(b:cm w w' r)(c:some g≠r):C7 w' g o k n a s d al ac ta tl tc na e nc :=
 ⟨kc h.1 b c,kc h.2.1 b c,kc h.2.2.1 b c,kc h.2.2.2.1 b c,kc h.2.2.2.2.1 b c,kc h.2.2.2.2.2.1 b c,kc h.2.2.2.2.2.2 b c⟩
def Xe{P:Program}{d:Func}{Q:Ending->bx->Prop}{A:Act}{w:bx}{R:Nat}{T:TypeId}{x0 e f g h j l:cg}{k n a:Int}{s:bo}{b:bj}{al ac:Nat}{ta:bj}{tl tc:Nat}{na:bj}{c nc:Nat}
 (hres:∀w':bx,w'.cell? ⟨R,0,none⟩=some (.i k)/\w'.cell? ⟨R,1,none⟩=some (.i n)/\w'.cell? ⟨R,2,none⟩=some (.i a)/\w'.cell? ⟨R,3,none⟩=some (.string s)/\w'.cell? ⟨R,4,none⟩=some (.slice b al ac)/\w'.cell? ⟨R,5,none⟩=some (.slice ta tl tc)/\w'.cell? ⟨R,6,none⟩=some (.slice na c nc)->(results d A.tmps).run P w' =.ok (bg k n a s b al ac ta tl tc na c nc) w')
 (hd:A.defers=[]) (hb:w.heap[R]?=some (.cells #[x0,e,f,g,h,j,l] T (0,0))) (hQ:∀w',cm w w' (some R)->Q (.returned (bg k n a s b al ac ta tl tc na c nc)) w') :
 bodyPost P d Q .ret A (qW w R (.i k) (.i n) (.i a) (.string s) (.slice b al ac) (.slice ta tl tc) (.slice na c nc)) :=
 yb (hres _ (cO (wN hb _ _ _ _ _ _ _))) hd (hQ _ (zy _ _ _ _ _ _ _ _ _))
def DT{α:Type}{l:List α}{n:Nat}(h:l.length=n+1):∃r x,l=r++[x]/\r.length=n:=by refine⟨l.dropLast,l.getLast (by intro e;subst e;simp at h),(qf7 _).symm,by simp[h]⟩
def rY{us:bk}{n:Nat}(h:∀u∈us,(nodeCells u).length=n):(flat us).length=us.length*n:=by
 induction us with
 | nil=>simp[flat]
 | cons u us a=>simp only[flat,qd4,qT,jt]at a|-;rw[a λv b=>h v (by simp[b]),h u ot,ja1];omega
def sU.top{l:an}{x:Va}{v:cg}{us:bk}(h:sU B O w (l++[x]) v us):∃g cap us' k n a s aa al ac ta tl tc na nl nc,v =.o g (l.length+1) cap/\(l.length+1<=cap/\cap<=maxLen)/\us=us'++[bg k n a s aa al ac ta tl tc na nl nc]/\aA (λb=>¬O b) w x (bg k n a s aa al ac ta tl tc na nl nc) /\
 C7 w g (l.length*7) k n a s aa al ac ta tl tc na nl nc/\sU B O w l (.o g l.length cap) us':=by
 have r:=h.len;simp only[qT,jt,xT]at r;obtain⟨us',u,rfl,c⟩:=DT r;have z:=h.lies l.length x u ot (by rw[<-c];simp);have f:=h.own;obtain⟨k,n,a,s,aa,al,ac,ta,tl,tc,na,nl,nc,rfl⟩:=z.bg;have C:∀u∈us',(nodeCells u).length=7:=λu E=>by
  obtain⟨i,q,rfl⟩:=ub E;have o:i<l.length:=od
  have⟨k,n,a,s,aa,al,ac,ta,tl,tc,na,nl,nc,e⟩:=(h.lies i l[i] us'[i] (by rw[jz o,qn o]) (by rw[jz q,qn q])).bg;rw[e];rfl
 have m:=rY C;unfold dF at f;rw[bV,qT,qa1,c]at f;obtain⟨g,cap,rfl,_⟩:=BO f (by rintro rfl;have:=f.2;simp at this);have D:=QX f;refine⟨g,cap,us',k,n,a,s,aa,al,ac,ta,tl,tc,na,nl,nc,rfl,D,rfl,z,?_,⟨?_,c,λi y v p t=>?_,λA e=>h.mine A e⟩⟩
 .have d:∀j y,(nodeCells (bg k n a s aa al ac ta tl tc na nl nc))[j]?=some y->w.cell? ⟨g,l.length*7+j,none⟩=some y:=λj y p=>iJ f (by rw[m,c]) j y (by simpa[flat]using p);exact⟨d 0 _ rfl,d 1 _ rfl,d 2 _ rfl,d 3 _ rfl,d 4 _ rfl,d 5 _ rfl,d 6 _ rfl⟩
 .unfold dF;rw[c];exact uF f (by rw[m,c])
 .exact h.lies i y v (by rw[jz (qv.1 p).1];exact p) (by rw[jz (qv.1 t).1];exact t)
def Yi (B:Nat) (O:br) (w:bx) (mb:Nat) (en:En) (aC:Int) (x:Va) (m:Ma) (e:Ending) (w':bx):Prop:=∃v,e =.returned v/\aA (λb=>¬O b) w' x v/\dB O w O w'/\dm B O w' mb en aC m
def Yh (B:Nat) (O:br) (w:bx) (x:Va) (mb:Nat) (en:En) (aC:Int) (m:Ma) (k n a:Int) (s:bo) (aa:bj) (al ac:Nat) (ta:bj) (tl tc:Nat) (na:bj) (nl nc:Nat) (fv:cg) (fs:bk) (e:Ending) (w':bx):Prop:=∃v,e =.returned v/\aA (λb=>¬O b) w' x v/\dB O w O w'/\∃sv us,bU B O w' mb en aC m k n a s aa al ac ta tl tc na nl nc sv fv us fs
def Yj (B:Nat) (O:br) (w:bx) (x:Va) (mb:Nat) (en:En) (aC:Int) (m:Ma) (L:Nat) (st:an) (k n a:Int) (s:bo) (aa:bj) (al ac:Nat) (ta:bj) (tl tc:Nat) (na:bj) (nl nc:Nat) (fv:cg) (fs:bk) (e:Ending) (w':bx):Prop:=∃v,e =.returned v/\aA (λb=>¬O b) w' x v/\dB O w O w'/\∃g cap us,(L+1<=cap/\cap<=maxLen)/\bU B O w' mb en aC { m with st:=st } k n a s aa al ac ta tl tc na nl nc (.o g L cap) fv us fs
def Cv{x:Va}{st:an}{k n a:Int}{s:bo}{J:bj}{al ac:Nat}{ta:bj}{tl tc:Nat}{na:bj}{T nc:Nat}{sv N:cg}{us M:bk}(h:bU B O w mb en aC m k n a s J al ac ta tl tc na T nc sv N us M)(R:m.st=x::st):Calls prog 118 #[.po mb] w (Yj B O w x mb en aC m st.length st k n a s J al ac ta tl tc na T nc N M):=by
 have u:=h.jL;rw[R,qb6]at u;obtain⟨g,y,ax,k1,n1,a1,s1,W,Y,X,ar,fE,au,ai,aq,aj,rfl,c,rfl,S,d,f⟩:=u.top;rw[qa0]at c d f h;have A:=jh c;generalize st.length=L at *;have ah:wrap64 (L:Int)=L:=by unfold maxLen at c;unfold wrap64;omega
 have⟨c,_⟩:=c;have p:=aK (w:=w) (.cells #[.i 0,.i 0,.i 0,.string ⟨#[]⟩,.n0,.n0,.n0] 36);have⟨HM,t,V,I⟩:=JT (h.grow p) h S f;have ae:=h.high _ h.mine.1;have ad:g<w.heap.size:=h.high g (h.jL.mine g rfl);have⟨U,D,C⟩:=we (d.keep p ot) (jj w (.cells #[.i 0,.i 0,.i 0,.string ⟨#[]⟩,.n0,.n0,.n0] 36)) p;clear h u S f d R p;go_enter func118,ntmps118
 go_upto_region 1 with (fail)
 generalize w.alloc _=j at *;have K:=λ(w':bx) (h:cm j w' (some w.heap.size))=>And.intro (iM (kb HM.blk h oB)) (U.keep h oB);unfold C7 at K;have ab:cm j j (some w.heap.size):=bM _ _;have hA:=λ(w':bx) (o:Obj) (h:cm j w' (some w.heap.size))=>fF h (kL (aK o));have K2:=λ(w':bx) (h:cm j w' (some mb))=>And.intro (cO (kb D h oB)) (qD (kb D h oB));have E:cm j j (some mb):=bM _ _;have hA2:=λ(w':bx) (o:Obj) (h:cm j w' (some mb))=>fF h (kL (aK o));have F:=λ(w':bx) (o:Nat) (v:cg) (h:cm j w' (some mb))=>dY h o none v;go_wp2_with fail;refine Xe (λw' h=>by simp[results,results118,go_sem,h,bg]) rfl (x0:=.i 0) (kb D (F _ _ _ (hA2 _ _ E)) oB) λw' Q=>?_;have l:cm w w' (some mb):=aG (fF (kL (aJ C (aK _))) (dY (bM _ _) _ _ _)) Q (qS _);have z:=dB.ofRow (O:=O) l (λq e=>by cases e;exact t.mine.1);have r:=kb (nG (HM.grow (aK _)).blk (.o g L y)).1 Q oB;refine⟨_,rfl,z.lies V,z,g,y,_,A,t.stack z r (I.kept z λq e=>⟨I.mine q e,l.block q (by cases e;omega) (λZ=>?_)⟩) (.inl rfl) (λq H _=>H) (λq H G _=>l.block q (t.high q H) (by simpa using G)) (λb P=>?_)⟩
 .cases Z;exact aD t.jL.own t.blk ov e.symm
 .by_cases e:b=mb
  .subst e;exact⟨_,_,r⟩
  .rw[l.block b (t.out.high b P) (by simpa using e)];exact t.cells b P
def yA{x:Va}{st:an}{k n a:Int}{s:bo}{b:bj}{al ac:Nat}{ta:bj}{tl tc:Nat}{na:bj}{f nc:Nat}{r d:cg}{us c:bk}(h:bU B O w mb en aC m k n a s b al ac ta tl tc na f nc r d us c)(q:m.st=x::st):Calls prog 118 #[.po mb] w (Yh B O w x mb en aC { m with st:=st } k n a s b al ac ta tl tc na f nc d c):=by refine (Cv h q).mono ?_;rintro e w' ⟨v,j,l,o,g,i,us,_,p⟩;exact⟨v,j,l,o,_,_,p⟩
def yB{x:Va}{st:an}(h:dm B O w mb en aC m)(g:m.st=x::st):Calls prog 118 #[.po mb] w (Yi B O w mb en aC x { m with st:=st }):=by have⟨k,n,a,s,aa,al,ac,ta,tl,tc,na,nl,nc,sv,fv,us,fs,h⟩:=h;refine (yA h g).mono ?_;rintro e w' ⟨v,b,c,d,sv,us,f⟩;exact⟨v,b,c,d,_,_,_,_,_,_,_,_,_,_,_,_,_,_,_,_,_,f⟩
def Src (O:br) (w:bx) (l:an) (xv:cg):Prop:=∃us:bk,gZ w xv us.length (flat us)/\us.length=l.length/\∀(i:Nat) (x:Va) (u:cg),l[i]?=some x->us[i]?=some u->aA (λb=>¬O b) w x u
def Src.row{l:an}{a:bj}{V:bt}{c:Nat}(h:aT (λb=>¬O b) w l a V):Src O w l (.slice a l.length c):=by
 refine⟨(List.range l.length).map V,?_,ot,λi x u m d=>?_⟩
 .have t:∀u∈(List.range l.length).map V,(nodeCells u).length=7:=λu d=>by
   simp only[ud,List.mem_range]at d;obtain⟨i,f,rfl⟩:=d;have⟨k,n,a,s,aa,al,ac,ta,tl,tc,na,nl,nc,e⟩:=(h.2.2 i f).bg;rw[e];rfl
  have g:=rY t;simp only[qf3,List.length_range]at g|-
  cases a with
  | none =>
   left;have p:l.length=0:=by
    cases I:l.length with
    | zero=>rfl
    | succ q=>have⟨b,o,e,_⟩:=h.2.1 0 od;cases e
   exact⟨c,by rw[p],p,jx (by rw[g,p])⟩
  | some v =>
   right;refine⟨v,c,rfl,λj u d=>?_⟩;have H:j<l.length*7:=by have:=(qv.1 d).1;omega
   obtain⟨i,r,z,rfl⟩:∃i r,r<7/\j=i*7+r:=⟨j / 7,j % 7,Nat.mod_lt _ od,od⟩;have f:i<l.length:=od
   have⟨b,o,e,_,k,n,a,s,aa,al,ac,ta,tl,tc,na,nl,nc,y,A,B,C,D,E,F,G⟩:=h.2.1 i f;cases e;rw[flatV_get _ t i r (V i) (by simp[f]) z,y]at d;rw[gI,<-qd6];rcases (show r=0\/r=1\/r=2\/r=3\/r=4\/r=5\/r=6 by omega)with rfl|rfl|rfl|rfl|rfl|rfl|rfl<;>(simp only[bg,nodeCells,kA,yy,qk]at d;subst d;assumption)
 .have f:=(qv.1 m).1;simp[f]at d;subst d;have:=h.2.2 i f;rw[qn f]at m;simp only[qk]at m;rw[<-m];exact this
def Src.grow{w':bx}{l:an}{xv:cg}(h:Src O w l xv)(d:cm w w' none):Src O w' l xv:=by
 have⟨us,a,g,k⟩:=h;refine⟨us,?_,g,λi x u m b=>(dB.grow (O:=O) d).lies (k i x u m b)⟩;rcases a with a|⟨f,c,e,a⟩
 .exact .inl a
 .exact .inr ⟨f,c,e,λj u b=>by have:=a j u b;exact (qt (d.block _ (zv w _ this) ot)).trans this⟩
def K8 (B:Nat) (O:br) (w:bx) (mb:Nat) (en:En) (aC:Int) (m:Ma) (e:Ending) (w':bx):Prop:=e =.returned (.tuple #[])/\∃O',dB O w O' w'/\dm B O' w' mb en aC m
def lL{us:bk}(h:∀u∈us,∃k n a s aa al ac ta tl tc na nl nc,u=bg k n a s aa al ac ta tl tc na nl nc):(flat us).length=us.length*7/\∀y∈flat us,y.oneCell':=by
 refine⟨rY λu c=>?_,λy b=>?_⟩
 .have⟨k,n,a,s,aa,al,ac,ta,tl,tc,na,nl,nc,e⟩:=h u c;rw[e];rfl
 .simp only[flat,qc1]at b;have⟨u,c,b⟩:=b;have⟨k,n,a,s,aa,al,ac,ta,tl,tc,na,nl,nc,e⟩:=h u c;rw[e]at b;simp[bg,nodeCells]at b;rcases b with rfl|rfl|rfl|rfl|rfl|rfl|rfl<;>rfl
def mO{l:an}{us:bk}(e:us.length=l.length)(h:∀(i:Nat) (x:Va) (u:cg),l[i]?=some x->us[i]?=some u->aA (λb=>¬O b) w x u):∀u∈us,∃k n a s aa al ac ta tl tc na nl nc,u=bg k n a s aa al ac ta tl tc na nl nc:=λu d=>by obtain⟨i,c,rfl⟩:=ub d;exact (h i l[i] us[i] (qn od) (qn c)).bg
def WU{c:Array Oper}{b:List Oper}{o:Oper}{a:Act}{Q:Exit->Act->bx->Prop}(g:o.guard=none)(s x:Operand)(C:o.op =.call { callee:=.builtin .append,args:=#[s,x],argTypes:=#[28,28] })
 {v xv:cg} (hs:a.eval s=v) (hx:a.eval x=xv) {l0 l:an} {us:bk} (h:sU B O w l0 v us) (hsrc:Src O w l xv) (hB:B<=w.heap.size) (hlen:l0.length+l.length<=100000000)
 (hk:∀v' us' w',sU B (qx O v v') w' (l0++l) v' us'->Gr w v w' v'->dB O w (qx O v v') w'->wpList prog c Q b (a.put o.dst v') w'):wpList prog c Q (o::b) a w:=by
 have⟨k,A,m,n⟩:=hsrc;have p:=lL (mO m n);refine ed g s x 28 C B 36 underlying28 mr rfl ov v us.length (flat us) hs h.own xv k.length (flat k) hx p.1 A p.2 (by have:=h.len;unfold maxLen;omega) (by have:=h.len;omega) hB λv' w' j r _=>?_;have z:=dB.gr r h.mine;refine hk v' (us++k) w' ⟨by unfold dF;rw[qT,bV];exact j,by simp[h.len,m],λi y u f d=>z.lies ?_,λq e=>.inr e⟩ r z
 by_cases t:i<l0.length
 .rw[jz t]at f;rw[jz (by rw[h.len];exact t)]at d;exact h.lies i y u f d
 .rw[ju od]at f;rw[ju (by rw[h.len];omega),h.len]at d;exact n _ y u f d
def nX{e:TypeId}{size n:Nat}{v:cg}{xs:bk}(h:w.ownsRow B e size v n xs):∃a c,v =.slice a n c:=by
 rcases h.2 with⟨rfl,rfl⟩|⟨g,b,d,rfl,_⟩
 .exact⟨_,_,rfl⟩
 .exact⟨_,_,rfl⟩
def Yf (B:Nat) (O:br) (w:bx) (mb:Nat) (sv:cg) (l:an) (e:Ending) (w':bx):Prop:=e =.returned (.tuple #[])/\∃v' us' w1,sU B (qx O sv v') w1 l v' us'/\Gr w sv w1 v'/\dB O w (qx O sv v') w1/\w'=w1.setCell ⟨mb,14,none⟩ v'
def G9{l p:an}{xv:cg}{g y:Int}{k n a:Int}{s:bo}{z:bj}{al ac:Nat}{ta:bj}{tl tc:Nat}{na:bj}{D nc:Nat}{i A:cg}{us:bk}(hb:w.heap[mb]?=some (.cells (yG en aC g y k n a s z al ac ta tl tc na D nc i A) 65))(t:sU B O w p i us)(c:Src O w l xv)(r:B<=w.heap.size)(b:p.length+l.length<=100000000):Calls prog 115 #[.po mb,xv] w (Yf B O w mb i (p++l)):=by have HM:=jh hb;have q:=jh t;have K:=λ(w':bx) (h:cm w w' none)=>iM (l5 HM h);have C:cm w w none:=bM _ _;have⟨x,HL,u⟩:=we c b r;clear hb t c b r;go_enter func115,ntmps115;go_wp2_with (at_builtin;refine WU (v:=i) (xv:=xv) rfl _ _ rfl rfl rfl q x u HL ?_;intro H E w' e d f;obtain⟨F,G,rfl⟩:=nX e.own;have o:=jh e;have m:=jh d;have j:=jh f;have I:=iM (kb HM d.1 (aD q.own HM ov));clear e d f);refine yb (v:=.tuple #[]) (by simp[results,results115,go_sem]) rfl ?_;exact⟨rfl,_,_,_,o,m,j,rfl⟩
def Yg (B:Nat) (O:br) (w:bx) (mb:Nat) (en:En) (aC:Int) (m:Ma) (k n a:Int) (s:bo) (aa:bj) (al ac:Nat) (ta:bj) (tl tc:Nat) (na:bj) (nl nc:Nat) (fv:cg) (fs:bk) (e:Ending) (w':bx):Prop:=e =.returned (.tuple #[])/\∃O',dB O w O' w'/\∃sv us,bU B O' w' mb en aC m k n a s aa al ac ta tl tc na nl nc sv fv us fs
def bU.Fv{st:an}{k n a:Int}{s:bo}{z:bj}{al ac:Nat}{ta:bj}{tl tc:Nat}{na:bj}{F nc:Nat}{j C v':cg}{us A us':bk}{w':bx}(c:bU B O w mb en aC m k n a s z al ac ta tl tc na F nc j C us A)(x:sU B (qx O j v') w' st.reverse v' us')(p:Gr w j w' v')(hF:dB O w (qx O j v') w') :
 dB O w (qx O j v') (w'.setCell ⟨mb,14,none⟩ v')/\bU B (qx O j v') (w'.setCell ⟨mb,14,none⟩ v') mb en aC { m with st:=st } k n a s z al ac ta tl tc na F nc v' C us' A:=by
 have d:cm w' (w'.setCell ⟨mb,14,none⟩ v') (some mb):=dY (bM _ _) _ _ _;have u:dB (qx O j v') w' (qx O j v') (w'.setCell ⟨mb,14,none⟩ v'):=dB.ofRow d (λq e=>by cases e;exact .inl ⟨c.mine.1,λe=>aD c.jL.own c.blk ov e.symm⟩);have D:=hF.trans u;have h:=(nG (kb c.blk p.1 (aD c.jL.own c.blk ov)) v').1;have y:∀q,v'.ownBlock=some q->q≠mb:=λq e r=>by
  subst r;rcases p.2 with o|⟨g,o,E⟩
  .exact aD c.jL.own c.blk ov (by rw[<-o,e])
  .rw[e]at o;cases o;have:=c.high _ c.mine.1;omega
 refine⟨D,c.stack D h (us':=us') ?_ ?_ (λq i l=>.inl ⟨i,l⟩) (λq i l v=>(d.block q (ki (c.high q i) p.1.size) (by simpa using l)).trans (p.1.block q (c.high q i) (λe=>v e.symm))) (λb f=>?_)⟩
 .exact x.kept u λq e=>⟨.inr e,d.block q (zp x.own q e).2 (by simpa using y q e)⟩
 .rcases p.2 with e|⟨g,e,E⟩
  .exact .inl e
  .exact .inr (.inr ⟨g,e,E⟩)
 .by_cases e:b=mb
  .subst e;exact⟨_,_,h⟩
  .have t:∃cs e,w'.heap[b]?=some (.cells cs e):=by
    rcases f with f|f
    .rw[p.1.block b (c.high b f.1) (λo=>f.2 o.symm)];exact c.cells b f.1
    .rcases x.own.2 with⟨r,_⟩|⟨g,G,H,r,_,i,_⟩
     .rw[r]at f;cases f
     .rw[r]at f;cases f;exact⟨_,_,i⟩
   rw[d.block b (by have⟨cs,q,i⟩:=t;exact (qq.1 i).1) (by simpa using e)];exact t
def BG{l:an}{xv:cg}{k n a:Int}{s:bo}{i:bj}{al ac:Nat}{ta:bj}{tl tc:Nat}{na:bj}{p nc:Nat}{q o:cg}{us j:bk}(h:bU B O w mb en aC m k n a s i al ac ta tl tc na p nc q o us j)(c:Src O w l xv)(b:m.st.length+l.length<=100000000):Calls prog 115 #[.po mb,xv] w (Yg B O w mb en aC { m with st:=l.reverse++m.st } k n a s i al ac ta tl tc na p nc o j):=by refine (G9 h.blk h.jL c (by have:=h.low _ h.mine.1;have:=h.high _ h.mine.1;omega) (by rw[qa0];exact b)).mono ?_;rintro e u ⟨rfl,t,r,w',g,f,d,rfl⟩;have:=h.Fv (st:=l.reverse++m.st) (by rw[qg7,jf7];exact g) f d;exact⟨rfl,_,this.1,_,_,this.2⟩
def Ha{l:an}{xv:cg}(h:dm B O w mb en aC m)(c:Src O w l xv)(b:m.st.length+l.length<=100000000):Calls prog 115 #[.po mb,xv] w (K8 B O w mb en aC { m with st:=l.reverse++m.st }):=by have⟨k,n,a,s,aa,al,ac,ta,tl,tc,na,nl,nc,sv,fv,us,fs,h⟩:=h;refine (BG h c b).mono ?_;rintro e w' ⟨d,O',f,sv,us,g⟩;exact⟨d,O',f,_,_,_,_,_,_,_,_,_,_,_,_,_,_,_,_,_,g⟩
end
open Go.ChangeShapes Go.WideShapes Go.ChangeAt Go.RowKit Go.Shelf
set_option maxHeartbeats 2000000
attribute [local go_sem] Oper.semAt_some
def YP (Bs b:Nat) (W W':bx):Prop:=∀o,W'.cell? ⟨Bs,o,none⟩=W.cell? ⟨Bs,o,none⟩/\W'.cell? ⟨b,o,none⟩=W.cell? ⟨b,o,none⟩
section
variable {α:Type}{encs:α->Array cg}
def PX(F:Fence)(n:Nat)(h1:F.fn 210)(B:F.round=none)(hn:1<=n)(l u b t cap:Nat)(V:bt)(xs:List α)(O:xs.length<=100000000)(s:∀r (h:r<xs.length),encs xs[r]=#[.i ((xs.length - 1 - r:Nat):Int),V (xs.length - 1 - r)])(J C:List α->bx->Prop)
 (hY:∀pre x W,J pre W->pre.length<xs.length->YieldAt F (n - 1) prog l (encs x) W λe c=>(e =.returned (.bool true)/\J (pre++[x]) c/\YP u b W c)\/(e =.returned (.bool false)/\C (pre++[x]) c))
 (W:bx) (hBs:W.cell? ⟨u,0,none⟩=some (.slice (some ⟨b,t,none⟩) xs.length cap)) (hc:∀j,j<xs.length->AX (λ_=>True) W (some ⟨b,t,none⟩) j (V j)) (h0:J [] W) :
 CallsIn F n prog 210 #[.func (.yield l) #[] #[],.po u] W λe c=>(∃v,e =.returned v)/\((∃ys,ys=xs/\J ys c)\/(∃pre,(∃k,k<=xs.length/\pre=xs.take k)/\C pre c)):=by
 refine callsIn_of_wp func210 rfl h1 ?_ B;simp only[ntmps210,jf6,jt,xT,Nat.reduceAdd,Nat.reduceSub,ka4,ka3,List.push_toArray,List.append_toArray,qe5,qd0];have ad:wrap64 ((xs.length:Int) - 1)=(xs.length:Int) - 1:=by unfold wrap64;omega
 gi_wp2
 gi_loopw [3] (λi wr=>∃k:Nat,k<=xs.length/\i =.i ((xs.length:Int) - 1 - k)/\J (xs.take k) wr/\YP u b W wr) (λi _=>(intOf i+1).toNat)
 case atStart=>exact⟨0,zE _,ot,h0,λ_=>⟨rfl,rfl⟩⟩
 case round =>
  obtain⟨k,hk,rfl,d,a⟩:=hrel;have N:=(a 0).1.trans hBs
  by_cases p:k<xs.length
  .have⟨fn,P,w,D,y,hR⟩:=hY (xs.take k) xs[k] wr d vc;rw[s k p]at y;have⟨bb,oo,eb,_,k1,n1,a1,s1,aa,al,ac,ta,tl,tc,na,nl,nc,Z,E,G,H,I,K,L,M⟩:=hc (xs.length - 1 - k) od;cases eb;rw[Z]at y;unfold bg at y;have Q:=(a _).2.trans E;have R:=(a _).2.trans G;have S:=(a _).2.trans H;have T:=(a _).2.trans I;have U:=(a _).2.trans K;have X:=(a _).2.trans L;have Y:=(a _).2.trans M;have⟨q,hq⟩:∃q:Nat,xs.length - 1 - k=q:=⟨_,rfl⟩;have A:(xs.length:Int) - 1 - k=(q:Int):=by omega
   have ab:q<xs.length:=od
   rw[hq]at y Q R S T U X Y;rw[A];clear E G H I K L M hc s hBs;have ae:wrap64 ((q:Int) - 1)=(q:Int) - 1:=by unfold wrap64;omega
   have g:xs.take (k+1)=xs.take k++[xs[k]]:=by rw[List.take_add_one,qn p];rfl
   gi_wp2
   refine hR.mono ?_;rintro e W3 (⟨rfl,z,m⟩|⟨rfl,f⟩)
   .gi_wp2
    go_roundw
    case rel=>exact⟨k+1,od,by congr 1;omega,by rw[g];exact z,λo=>⟨(m o).1.trans (a o).1,(m o).2.trans (a o).2⟩⟩
    case measure=>simp[intOf]
   .gi_wp2
    refine yb (results_none rfl _ _ _) rfl ?_;exact⟨⟨_,rfl⟩,.inr ⟨_,⟨k+1,od,g.symm⟩,f⟩⟩
  .obtain rfl:k=xs.length:=by omega
   gi_wp2
   go_end0
   exact⟨⟨_,rfl⟩,.inl ⟨_,rfl,by simpa using d⟩⟩
def PW(F:Fence)(n:Nat)(j:F.fn 210)(d:F.round=none)(l f c:Nat)(a:bj)(J:List α->bx->Prop)(W:bx)(k:W.cell? ⟨f,0,none⟩=some (.slice a 0 c))(h:J [] W) :
 CallsIn F n prog 210 #[.func (.yield l) #[] #[],.po f] W λe g=>(∃v,e =.returned v)/\J [] g:=by
 refine callsIn_of_wp func210 rfl j ?_ d;simp only[ntmps210,jf6,jt,xT,Nat.reduceAdd,Nat.reduceSub,ka4,ka3,List.push_toArray,List.append_toArray,qe5,qd0]
 gi_wp2
 gi_loopw [3] (λi wr=>i =.i (-1)/\J [] wr) (λ_ _=>0)
 case atStart=>exact⟨rfl,h⟩
 case round =>
  obtain⟨rfl,b⟩:=hrel
  gi_wp2
  go_end0
  exact⟨⟨_,rfl⟩,b⟩
def TJ(F:Fence)(n:Nat)(d:F.fn 191)(c:F.round=none)(a:bj)(b cap:Nat)(w:bx) :
 CallsIn F n prog 191 #[.slice a b cap] w λe w'=>e =.returned (.func (.func 210) #[] #[.po (w.heap.size)])/\w'=w.alloc (.cells #[.slice a b cap] 28):=by
 refine callsIn_of_wp func191 rfl d ?_ c;simp only[ntmps191,jf6,jt,xT,Nat.reduceAdd,Nat.reduceSub,ka4,ka3,List.push_toArray,List.append_toArray,qe5,qd0]
 gi_wp2
 go_ret;exact⟨rfl,rfl⟩
def Je(F:Fence)(n:Nat)(y:F.fn 210)(m:F.round=none)(hn:1<=n)(d b c:Nat)(a:bj)(V:bt)(xs:List α)(g:xs.length<=100000000)(u:∀r (h:r<xs.length),encs xs[r]=#[.i ((xs.length - 1 - r:Nat):Int),V (xs.length - 1 - r)])
 (w:bx) (hb:xs≠[]->∀q o,a=some ⟨q,o,none⟩->b=q) (hsz:d<w.heap.size) (hBs:w.cell? ⟨d,0,none⟩=some (.slice a xs.length c)) (hc:∀j,j<xs.length->AX (λ_=>True) w a j (V j)) :
 SeqStopsK F n prog 210 #[.po d] encs (YP d b) (λys=>ys=xs) (λpre=>∃k,k<=xs.length/\pre=xs.take k) xs.length w:=λl J A W z _ _ B v=>by
 have f:=(z.cell (p:=⟨d,0,none⟩) hsz).trans hBs
 cases xs with
 | nil=>exact (PW F n y m l d c a J W f v).mono λe D ⟨C,s⟩=>⟨C,.inl ⟨_,rfl,s⟩⟩
 | cons x r =>
  obtain⟨q,o,rfl,_⟩:=hc 0 ot;have:=hb ot q o rfl;subst this;exact PX F n y m hn l d b o c V (x::r) g u J A B W f (λj s=>(hc j s).same λq o _ t=>z.cell (p:=⟨q,o,none⟩) t) v
end
set_option maxHeartbeats 400000
attribute [local go_sem] Oper.semAt_some
abbrev Item (O:br) (w:bx):={ p:Nat×Va×cg // aA (λb=>¬O b) w p.2.1 p.2.2/\p.2.1.size<=20000000 }
def encI {O:br}{w:bx}(x:Item O w):Array cg:=#[.i (x.1.1:Int),x.1.2.2]
def vQ {O:br}{w:bx}(l:List (Item O w)):an:=l.map λx=>x.1.2.1
def Ag{α:Type}{n:Nat}{b:bx->bx->Prop}{I:List α->bx->Prop}{c:Code->List α->bx->Prop}{xs:List α}{W a:bx}{A:Act}(d:KeepsFrom n W a)(e:b W a)(f:I xs a):ownPostG n b I c xs W .normal A a:=⟨d,e,f⟩
def OL{O:br}{w:bx}(l:List (Item O w))(x:Item O w):vQ (l++[x])=vQ l++[x.1.2.1]:=by unfold vQ;rw[qb5];rfl
def dB.zB{O c:br}{w A A':bx}{row:Option Nat}(h:dB O w c A)(a:cm A A' row)(g:∀r,row=some r->w.heap.size<=r):dB O w c A' :=
 ⟨a.os.trans h.os,a.tape.trans h.tape,a.output.trans h.output,km h.size a.size,λb d f=>(a.block b (ki d h.size) (λe=>by have:=g b e.symm;omega)).trans (h.block b d f),h.new⟩
def Src.one{O:br}{w:bx}{y:Va}{k n a:Int}{s:bo}{c:bj}{al ac:Nat}{ta:bj}{tl tc:Nat}{na:bj}{d nc:Nat}{T:TypeId}(h:aA (λb=>¬O b) w y (bg k n a s c al ac ta tl tc na d nc)) :
 Src O (w.alloc (.cells #[.i k,.i n,.i a,.string s,.slice c al ac,.slice ta tl tc,.slice na d nc] T)) [y] (.o (w.heap.size) 1 1):=by
 refine⟨[bg k n a s c al ac ta tl tc na d nc],?_,rfl,λi x u e f=>?_⟩
 .have:=gZ.new w T #[.i k,.i n,.i a,.string s,.slice c al ac,.slice ta tl tc,.slice na d nc] 1 1;simpa[flat,nodeCells,bg]using this
 .cases i with
  | zero =>
   simp only[kA,qk]at e f;subst e;subst f;exact (dB.grow (O:=O) (aK _)).lies h
  | succ i=>simp at e
def qy{w:bx}{b:Nat}{T:TypeId}{x:cg}(h:w.heap[b]?=some (.cells #[x] T)):w.cell? ⟨b,0,none⟩=some x:=by simp[World.cell?,h]
def We{w:bx}{b:Nat}{T:TypeId}{x:cg}(h:w.heap[b]?=some (.cells #[x] T)):w.frozen? ⟨b,0,none⟩=false:=by simp[World.frozen?,h]
def LP{w:bx}{b:Nat}{T:TypeId}{x:cg}(h:w.heap[b]?=some (.cells #[x] T)):¬fe w b:=by rintro⟨cs,e,d,a,c⟩;rw[h]at a;cases a;simp at c
def NB{O c:br}{X Y:bx}(h:dB O X c Y)(hc:∀b,O b->∃cs e,X.heap[b]?=some (.cells cs e))(n:Nat):KeepsFrom n X Y :=
 ⟨h.size,λk o _ a f=>(h.block k (qq.1 a).1 (λd=>by have⟨cs,e,g⟩:=hc k d;rw[g]at a;cases a;cases f)).trans a⟩
section
variable {B:Nat}{O:br}{w:bx}{mb:Nat}{en:En}{aC:Int}{m:Ma}
def Fh{l:an}{I:bj}{c:Nat}{V:bt}(h:dm B O w mb en aC m)(hl:aT (λb=>¬O b) w l I V)(hz:vsizes l<=20000000)(bf:m.st.length+l.length<=100000000):Calls prog 154 #[.po mb,.slice I l.length c] w (jK B O w mb en aC (bz m l)):=by
 refine (callsIn_wide (n:=5)).1 ?_;refine callsIn_of_wp_marks func154 rfl trivial ?_ rfl;simp only[ntmps154,jf6,jt,xT,Nat.reduceAdd,Nat.reduceSub,ka4,ka3,List.push_toArray,List.append_toArray,qe5,qd0]
 gi_wp2_with (refine⟨trivial,?_⟩;gi_at_call 191;refine (TJ Fence.wide _ trivial rfl _ _ _ _).mono ?_;rintro e w' ⟨rfl,rfl⟩)
 have⟨p,z⟩:∃p,((w.alloc (.cells #[.po mb] 85)).alloc (.cells #[.i 0] 31)).alloc (.cells #[.slice I l.length c] 28)=p:=⟨_,rfl⟩;rw[z];have F:cm w p none:=by rw[<-z];exact aJ (aJ (aK _) (aK _)) (aK _)
 have ai:p.heap.size=w.heap.size+3:=by rw[<-z];simp
 have hA2:p.cell? ⟨w.heap.size,0,none⟩=some (.po mb):=by rw[<-z];exact JJ (aJ (aK _) (aK _)) (qy (jj w _))
 have hA4:p.heap[w.heap.size+1]?=some (.cells #[.i 0] 31):=by rw[<-z];have:=jj (w.alloc (.cells #[.po mb] 85)) (.cells #[.i 0] 31);rw[yv]at this;exact l5 this (aK _)
 have aq:p.cell? ⟨w.heap.size+1+1,0,none⟩=some (.slice I l.length c):=by rw[<-z];have:=jj ((w.alloc (.cells #[.po mb] 85)).alloc (.cells #[.i 0] 31)) (.cells #[.slice I l.length c] 28);rw[yv,yv]at this;exact qy this
 have ad:aT (λb=>¬O b) p l I V:=(dB.grow (O:=O) F).U5 hl;have ax:=h.grow F;have g:∀b,w.heap.size<=b->¬O b:=λb hb L=>by have:=h.high b L;omega
 have⟨b,bb,Z⟩:∃b,(l≠[]->∀q o,I=some ⟨q,o,none⟩->b=q)/\b<p.heap.size/\¬O b:=by
  cases l with
  | nil=>exact⟨w.heap.size,λh=>absurd rfl h,od,g _ (qS _)⟩
  | cons x r =>
   have⟨q,o,e,hq,k,n,a,s,aa,al,ac,ta,tl,tc,na,nl,nc,_,h0,_⟩:=hl.2.1 0 ot;exact⟨q,λ_ q' o' e'=>by rw[e]at e';cases e';rfl,by have:=zv w _ h0;simp only at this;omega,hq⟩
 have⟨R,bp,bm,N⟩:∃R:List (Item O p),R.length=l.length/\(∀r (h:r<R.length),encI R[r]=#[.i ((R.length - 1 - r:Nat):Int),V (R.length - 1 - r)])/\vQ R=l.reverse:=by
  refine⟨List.ofFn λr:Fin l.length=>⟨(l.length - 1 - r.1,l[l.length - 1 - r.1],V (l.length - 1 - r.1)),ad.2.2 _ od,km (fO (zd od)) hz⟩,ot,λr h=>by simp[encI],?_⟩;apply List.ext_getElem
  .simp[vQ]
  .intro i f d;simp[vQ]
 refine wpIn_rangeFunc_ownH rfl ov (gf:=210) (lb:=#[.po (w.heap.size+1+1)]) rfl trivial (enters_of func210 oA rfl)
  (Je (encs:=encI) Fence.wide 4 trivial rfl ov (w.heap.size+1+1) b c I V R od bm p (λhx q o e=>bb (λe2=>hx (jx (by rw[bp,e2];rfl))) q o e) od (by rw[bp];exact aq) (λj hj=>(ad.2.1 j od).ae λ_ _ _=>trivial))
  (λf d o=>⟨(d o).1.trans (f o).1,(d o).2.trans (f o).2⟩) (λW l o o' hl h _ _ q=>by have C:=grownBy_putObj' W l o';have ah:=(qq.1 h).1;exact⟨qt (C.block (w.heap.size+1+1) od oB),qt (C.block b od oB)⟩) (Below.refl _ _) (λ_=>rfl)
  (λpre W=>(∃O',dm B O' W mb en aC { m with st:=(vQ pre).reverse++m.st }/\dB O p O' W)/\(vQ pre).any yN=false)
  (λcd pre W=>cd =.ret/\(vQ pre).any yN/\W.cell? ⟨w.heap.size+1,0,none⟩=some (.i 13)/\∃O' m',m'.paid=m.paid/\m'.said=m.said/\dm B O' W mb en aC m'/\dB O w O' W)
  ?own ?ownx ⟨⟨O,ax,dB.refl _ _⟩,rfl⟩
  (λx a' W=>∃Bx k n a s aa al ac ta tl tc na nl nc,p.heap.size<=Bx/\x.1.2.2=bg k n a s aa al ac ta tl tc na nl nc/\W.heap[Bx]?=some (.cells #[.i k,.i n,.i a,.string s,.slice aa al ac,.slice ta tl tc,.slice na nl nc] 36) /\
   a' = { tmps:=#[.po mb,.slice I l.length c,.po (w.heap.size),undef,.po (w.heap.size+1),undef,.po Bx,.slice I l.length c,.func (.func 210) #[] #[.po (w.heap.size+1+1)],.i (x.1.1:Int),x.1.2.2,undef,undef,undef,undef,undef,undef,undef],defers:=[] })
  ?ownA ?assign ?body ?done ?stop
 case own =>
  rintro pre A A' row ⟨⟨O',f,d⟩,t⟩ C H;exact⟨⟨O',f.turn C λr e=>f.no (H r e).2,d.zB C λr e=>(H r e).1⟩,t⟩
 case ownx =>
  rintro cd pre A A' row ⟨f,d,t,O',m',h4,h5,h6,h7⟩ C H;exact⟨f,d,(cell_kept t C λr e=>(H r e).2),O',m',h4,h5,h6.turn C λr e=>h6.no (H r e).2,h7.zB C λr e=>by have:=(H r e).1;omega⟩
 case ownA =>
  rintro x a' _ A A' row ⟨Bx,k,n,a,s,aa,al,ac,ta,tl,tc,na,nl,nc,f,d,t,h4⟩ C H;exact⟨Bx,k,n,a,s,aa,al,ac,ta,tl,tc,na,nl,nc,f,d,(Cx C (λr e=>DZ (H r e).2) ⟨_,_,_,t,ot⟩).trans t,h4⟩
 case assign =>
  rintro lo pre ⟨⟨ix,y,v⟩,hL,aj⟩ W K ⟨⟨O',f,d⟩,t⟩ S;obtain⟨k,n,a,s,aa,al,ac,ta,tl,tc,na,nl,nc,rfl⟩:=hL.bg;dsimp only[encI,bg]
  gi_wp2
  refine S _ _ ((KeepsOthers.alloc _ _).from _) (λo=>⟨?_,?_⟩) ⟨⟨O',f.grow (aK _),d.trans (dB.grow (aK _))⟩,t⟩ ⟨W.heap.size,k,n,a,s,aa,al,ac,ta,tl,tc,na,nl,nc,d.size,rfl,jj _ _,rfl⟩
  .exact qt ((aK _).block (w.heap.size+1+1) (by have:=d.size;omega) ot)
  .exact qt ((aK _).block b (by have:=d.size;omega) ot)
 case body =>
  rintro lo pre ⟨⟨ix,y,v⟩,hL,aj⟩ a' W cl ⟨r,H⟩ ⟨⟨O',f,d⟩,t⟩ ⟨Bx,k,n,a,s,aa,al,ac,ta,tl,tc,na,nl,nc,cq,ev,bc,rfl⟩ cp;dsimp only at hL aj ev;subst ev;have X:=d.lies hL;have HS:=jh (RL (X.ae (ok':=λ_=>True) λ_ _ _=>trivial) aj W (bM _ _));have q2:=(qt (d.block w.heap.size od (g _ (qS _)))).trans hA2;have Q:=(d.block (w.heap.size+1) od (g _ od)).trans hA4;have KB:=λ(w':bx) (h:cm W w' none)=>And.intro (cO (l5 bc h)) (And.intro (JJ h q2) (And.intro (qy (l5 Q h)) (We (l5 Q h))));have M:¬O' (w.heap.size+1):=λL=>by rcases d.new _ L with h|h;exact g _ od h;omega
  have az:¬O' (w.heap.size+1+1):=λL=>by rcases d.new _ L with h|h;exact g _ od h;omega
  have ay:¬O' b:=λL=>by rcases d.new _ L with h|h;exact Z.2 h;omega
  have cr:cm W W none:=bM _ _;unfold bg at HS
  by_cases hb:200<wrap64 (vsum y:Nat)
  .gi_wp2_with (refine⟨trivial,?_⟩;gi_at_call 192;refine (CallsIn.inRound lo (callsIn_wide.2 HS)).mono ?_;rintro e w1 ⟨rfl,u⟩)
   have k4:=l5 Q u;have E:cm w1 (w1.setCell ⟨w.heap.size+1,0,none⟩ (.i 13)) (some (w.heap.size+1)):=dY (bM _ _) _ _ _;refine⟨(KeepsFrom.of_grownBy u (λj e=>by cases e)).trans ((KeepsOthers.setCell _ _ _).from _),rfl,by simp[vQ,yN,hb],World.cell?_setCell_same' _ _ _ (by rw[qy k4];rfl),O',{ m with st:=(vQ pre).reverse++m.st },rfl,rfl,(f.grow u).turn E (λr e=>by cases e;exact⟨LP k4,M⟩),(((dB.grow F).trans d).trans (dB.grow u)).zB E (λr e=>by cases e;omega)⟩
  .have G:((vQ pre).reverse++m.st).length+[y].length<=100000000:=by simp[vQ];omega
   have⟨HM,H1,H2,H3,cf,cc,bq,cj⟩:=wj (λ(w1:bx) (hS:cm W w1 none)=>Ha (l:=[y]) ((f.grow hS).grow (aK _)) (Src.one (T:=36) ((dB.grow (O:=O') hS).lies X)) G) f d t az ay Z ai;generalize aO:ownPostG _ _ _ _ _ _=QQ;have ch:=jh aO;clear aO;clear f d t X az ay Z ai H cl bc q2 Q M hA2 hA4 aq ad ax g bb bm N F z hl hz bf G h
   gi_wp2_with (first
    | (refine⟨trivial,?_⟩;gi_at_call 192;refine (CallsIn.inRound lo (callsIn_wide.2 HS)).mono ?_;rintro e w1 ⟨rfl,u⟩)
    | (refine⟨trivial,?_⟩;gi_at_call 115;have bh:=CallsIn.inRound lo ((callsIn_wide (n:=2)).2 (HM w1 u));refine bh.mono ?_;clear bh HM HS;rintro e w2 ⟨rfl,O2,ar,J⟩;have ca:=jh ar;have cb:=jh J;clear ar J;refine jf1 λbl=>?_))
   apply bl;clear bl;rename_i K1 au;refine au _ _ ?_;clear au
   gi_wp2
   rw[<-ch.out];have J:=cb.out;have hF:dB O' W O2 w2:=((dB.grow u).trans (dB.grow (aK _))).trans ca;have d:=H2.out;have t:=H3.out;have ai:=cj.out;have ah:w.heap.size+1+1<W.heap.size/\b<W.heap.size:=by have:=d.size;have:=bq.out.1;omega
   have g1:KeepsFrom p.heap.size W w2:=NB hF (dm.cells H1) _;have g2:YP (w.heap.size+1+1) b W w2:=λo=>⟨qt (hF.block (w.heap.size+1+1) ah.1 cf),qt (hF.block b ah.2 cc)⟩;have g4:=d.trans hF;have g5:yN y=false:=qa6 od;have g6:∀x:Item O p,x.1.2.1=y->(∃O',dm B O' w2 mb en aC { m with st:=(vQ (pre++[x])).reverse++m.st }/\dB O p O' w2)/\(vQ (pre++[x])).any yN=false:=λx e=>by
    rw[OL,e];refine⟨⟨O2,?_,g4⟩,?_⟩
    .rw[qg7,ur];exact J
    .rw[List.any_append,t,List.any_cons,List.any_nil,g5];rfl
   exact Ag g1 g2 (g6 _ rfl)
 case done =>
  rintro D ys W hD rfl ⟨⟨O',f,d⟩,t⟩ S;have Q:=(d.block (w.heap.size+1) od (g _ od)).trans hA4;have z0:=qy Q;have z1:=We Q
  gi_wp2
  have U:=(KeepsOthers.setCell W ⟨w.heap.size+1,0,none⟩ (.i 0)).same D _ S rfl;refine⟨ot,.inl ⟨_,_,rfl,run_takeDeferred U,?_⟩⟩;have ab:=cell_kept (World.cell?_setCell_same' W ⟨w.heap.size+1,0,none⟩ (.i 0) (by rw[z0];rfl)) (grownBy_putObj' _ D (.deferred none)) (λr e=>by cases e;exact⟨_,U,rfl⟩);have M:¬O' (w.heap.size+1):=λL=>by rcases d.new _ L with h|h;exact g _ od h;omega
  have E:cm W (W.setCell ⟨w.heap.size+1,0,none⟩ (.i 0)) (some (w.heap.size+1)):=dY (bM _ _) _ _ _;have Y:=f.turn E (λr e=>by cases e;exact⟨LP Q,M⟩);refine⟨.i 0,by simp[results,results154,go_sem,ab],O',(((dB.grow F).trans d).zB E (λr e=>by cases e;omega)).zB (grownBy_putObj' _ D (.deferred none)) (λr e=>by cases e;omega),?_⟩;rw[N,List.any_reverse]at t;rw[N,jf7]at Y;unfold bz;rw[oa,t,if_neg ot];exact⟨rfl,Y.turn (grownBy_putObj' _ D (.deferred none)) (λr e=>by cases e;exact Y.no ⟨_,U,rfl⟩)⟩
 case stop =>
  rintro D cd pre W hD ⟨k,hk,rfl⟩ ⟨rfl,P,ck,O',m',e1,e2,f,d⟩ S
  gi_wp2
  refine⟨ot,.inl ⟨_,_,rfl,run_takeDeferred S,?_⟩⟩;have ab:=cell_kept ck (grownBy_putObj' _ D (.deferred none)) (λr e=>by cases e;exact⟨_,S,rfl⟩);refine⟨.i 13,by simp[results,results154,go_sem,ab],O',d.zB (grownBy_putObj' _ D (.deferred none)) (λr e=>by cases e;omega),?_⟩;have ba:l.any yN:=by rw[<-List.any_reverse,<-N];rw[ja6]at P|-;have⟨y,hy,cn⟩:=P;exact⟨y,by simp only[vQ,ud]at hy|-;have⟨x,hx,e⟩:=hy;exact⟨x,qe2 hx,e⟩,cn⟩
  unfold bz;rw[oa,ba,if_pos rfl];exact⟨ov,rfl,m',e1,e2,f.turn (grownBy_putObj' _ D (.deferred none)) (λr e=>by cases e;exact f.no ⟨_,S,rfl⟩)⟩
end
section
variable {B:Nat}{O O':br}{w w':bx}{mb:Nat}{en:En}{aC:Int}{m:Ma}{k n a:Int}{s:bo}{aa:bj}{al ac:Nat}{ta:bj}{tl tc:Nat}{na:bj}{nl nc:Nat}{sv fv:cg}{us fs:bk}
def Ue:(prog.info? 68).map (λi=>(i.zero,i.size,i.bytes))=some (some (.agg #[.n0,.i 0,.n0,.n0]),4,80):=oA
def OX (us:bk):Prop:=∀u∈us,∃ra rl rc op wa wl wc aa al ac,u=yF ra rl rc op wa wl wc aa al ac
def wE{us:bk}(h:OX us):(flat us).length=us.length*4/\∀y∈flat us,y.oneCell':=by
 refine⟨rY λu b=>?_,λy a=>?_⟩
 .have⟨c,f,d,op,g,i,wc,aa,al,ac,e⟩:=h u b;rw[e];rfl
 .simp only[flat,qc1]at a;have⟨u,b,a⟩:=a;have⟨c,f,d,op,g,i,wc,aa,al,ac,e⟩:=h u b;rw[e]at a;simp[yF,nodeCells]at a;rcases a with rfl|rfl|rfl|rfl<;>rfl
def jc.form:∀{f:List Fr}{us:bk},jc B O w f us->OX us/\us.length=f.length
 | [],[],_=>⟨λu d=>by simp at d,rfl⟩
 | f::fs,u::us,h=>by
  have⟨c,b⟩:=h;obtain⟨i,j,k,wc,aa,ac,e,g,rfl,_⟩:=c;refine⟨λv a=>?_,by simp[b.form.2]⟩;rcases zr.1 a with rfl|a
  .exact⟨_,_,_,_,_,_,_,_,_,_,rfl⟩
  .exact b.form.1 v a
 | [],_::_,h=>h.elim
 | _::_,[],h=>h.elim
def jc.snoc{f:Fr}{u:cg}(a:wU B O w f u):∀{l:List Fr}{us:bk},jc B O w l us->jc B O w (l++[f]) (us++[u])
 | [],[],_=>⟨a,trivial⟩
 | f::fs,u::us,h=>⟨h.1,jc.snoc a h.2⟩
 | [],_::_,h=>h.elim
 | _::_,[],h=>h.elim
def jc.split{f:Fr}{u:cg} : ∀{l:List Fr}{us:bk},jc B O w (l++[f]) (us++[u])->jc B O w l us/\wU B O w f u
 | [],[],h=>⟨trivial,h.1⟩
 | f::fs,u::us,h=>⟨⟨h.1,(jc.split h.2).1⟩,(jc.split h.2).2⟩
 | [],u::us,h=>by have:=h.2;cases us<;>exact this.elim
 | f::fs,[],h=>by have:=h.2;cases fs<;>exact this.elim
def kV{f:Fr}{u:cg} : ∀{l:List Fr}{us:bk},us.length=l.length->keptBs (l++[f]) (us++[u])=keptBs l us++lM f u
 | [],[],_=>by simp[keptBs]
 | f::fs,u::us,h=>by simp only[qd0,keptBs,kV (by simpa using h),ur]
def bU.apart(h:bU B O w mb en aC m k n a s aa al ac ta tl tc na nl nc sv fv us fs):(∀g,sv.ownBlock=some g->g≠mb/\fv.ownBlock≠some g)/\(∀g∈keptBs m.fr.reverse fs,g≠mb/\fv.ownBlock≠some g/\sv.ownBlock≠some g)/\fv.ownBlock≠some mb:=by
 have hF:∀{g:Nat} {cs:Array cg},w.heap[g]?=some (.cells cs 36)->fv.ownBlock≠some g:=λb e=>aD h.own b ov e.symm;refine⟨λg e=>?_,λg d=>?_,λe=>aD h.own h.blk ov e.symm⟩
 .rcases h.jL.own.2 with⟨c,_⟩|⟨j,f,i,c,_,b,_⟩
  .rw[c]at e;cases e
  .rw[c]at e;cases e;exact⟨dC b h.blk ov,hF b⟩
 .have⟨_,cs,b⟩:=h.sZ.mine g d;exact⟨dC b h.blk ov,hF b,λe=>(qc6.1 h.nodup).2.2 g (by simp[e]) g d rfl⟩
def bU.push(h:bU B O w mb en aC m k n a s aa al ac ta tl tc na nl nc sv fv us fs)(i:dB O w O' w'){st:an}{f:Fr}{u sv' c:cg}{us':bk}(d:w'.heap[mb]?=some (.cells (yG en aC m.paid m.aO k n a s aa al ac ta tl tc na nl nc sv' c) 65))
 (hstk:sU B O' w' st.reverse sv' us') (hown:kU B w' c (fs++[u])) (hu:wU B O' w' f u) (hnd:(sv'.ownBlock.toList++(keptBs m.fr.reverse fs++lM f u)).Nodup) (hO:∀g,O g->fv.ownBlock≠some g->O' g) (hk:∀g∈keptBs m.fr.reverse fs,w'.heap[g]?=w.heap[g]?)
 (hfv:∀g,c.ownBlock=some g->O' g) (hcells:∀b,O' b->∃cs e,w'.heap[b]?=some (.cells cs e)):bU B O' w' mb en aC { m with st:=st,fr:=f::m.fr } k n a s aa al ac ta tl tc na nl nc sv' c us' (fs++[u]):=by
 have o:=h.apart;have q:=h.sZ.form.2;refine⟨d,i.lies h.said,hstk,hown,?_,?_,⟨hO _ h.mine.1 o.2.2,hfv⟩,λb p=>?_,hcells,h.num⟩
 .simp only[qb6];exact jc.snoc hu (h.sZ.kept i λg j=>⟨hO g (h.sZ.mine g j).1 (o.2.1 g j).2.1,hk g j⟩)
 .simp only[qb6];rw[kV q];exact hnd
 .rcases i.new b p with l|l
  .exact h.low b l
  .have:=h.low _ h.mine.1;have:=h.high _ h.mine.1;omega
def WY{w:bx}{g:Nat}{T:TypeId}{x0 a b c:cg}(h:w.heap[g]?=some (.cells #[x0,a,b,c] T (0,0))):w.cell? ⟨g,0,none⟩=some x0/\w.cell? ⟨g,1,none⟩=some a/\w.cell? ⟨g,2,none⟩=some b/\w.cell? ⟨g,3,none⟩=some c:=by simp[World.cell?,h]
def IW (B:Nat) (w:bx) (mb:Nat) (fv:cg) (us:bk) (e:Ending) (w':bx):Prop :=
 e =.returned (.tuple #[])/\∃fv' w1,Gr w fv w1 fv'/\kU B w1 fv' us/\w'=w1.setCell ⟨mb,15,none⟩ fv'
def Dm{ra:bj}{rl rc:Nat}{op:Int}{wa:bj}{wl wc:Nat}{ba:bj}{bl bc:Nat}(h:bU B O w mb en aC m k n a s aa al ac ta tl tc na nl nc sv fv us fs)(r:m.fr.length<=100000000):Calls prog 29 #[.po mb,.agg #[.slice ra rl rc,.i op,.slice wa wl wc,.slice ba bl bc]] w (IW B w mb fv (fs++[yF ra rl rc op wa wl wc ba bl bc])):=by
 have A:=aK (w:=w) (.cells #[.slice ra rl rc,.i op,.slice wa wl wc,.slice ba bl bc] 68);have y:=jj w (.cells #[.slice ra rl rc,.i op,.slice wa wl wc,.slice ba bl bc] 68);have HM:=jh h;have j:Hid (fs.length<=100000000):=by have:=h.sZ.form.2;rw[qa0]at this;exact (by omega:fs.length<=100000000)
 have G:Hid (B<=w.heap.size):=by have:=h.low _ h.mine.1;have:=h.high _ h.mine.1;exact (by omega:B<=w.heap.size)
 have J:=h.high _ h.mine.1;clear h r;go_enter func29,ntmps29;go_wp2_with fail;refine ja7 (S:=λw'=>w'.heap[w.heap.size]?=some (.cells #[.slice ra rl rc,.i op,.slice wa wl wc,.slice ba bl bc] 68)) oA y (λd=>?_);have g:cm w (w.alloc (.cells #[.slice ra rl rc,.i op,.slice wa wl wc,.slice ba bl bc] 68)).drew none:=fK A;generalize (w.alloc _).drew=F at *;have c:=jh (HM.grow g);have x:=(iM c.blk).2.2.2.2.2.2.2.2.1;have D:=JJ (aK (w:=F) (.cells #[.slice ra rl rc,.i op,.slice wa wl wc,.slice ba bl bc] 68)) x;refine fG 0 4 ?_;refine fG 1 5 ?_;refine fG 2 6 ?_;refine fG 3 7 ?_;refine LX 5 9 (v:=.agg #[.slice ra rl rc,.i op,.slice wa wl wc,.slice ba bl bc]) ⟨_,rfl,rfl,rfl,λQ I=>?_⟩ ?_
 .have z:=WY I;go_simp
 simp only[Act.put,pS];have f:=aB (o:=.cells #[.slice ra rl rc,.i op,.slice wa wl wc,.slice ba bl bc] 68) d;refine kO (rs:=[4,6]) oA ot ?_;refine ke rfl (λK b=>?_) (ke rfl (λK b=>?_) kp)
 focus
  go_simp;refine b _ _ d (λ_=>?_);clear b K;refine kO (rs:=[6]) oA ot ?_;refine ke rfl (λK b=>?_) kp;go_simp;refine b _ _ f (λ_=>?_);clear b K
 rotate_left
 focus
  go_simp;refine b _ _ f (λ_=>?_);clear b K;refine kO (rs:=[4]) oA ot ?_;refine ke rfl (λK b=>?_) kp;go_simp;refine b _ _ f (λ_=>?_);clear b K
 all_goals
  refine kO (rs:=[7]) oA ot ?_;refine ke rfl (λK b=>?_) kp;refine yx rfl (.tmp 8) (.tmp 10) 63 rfl B 68 underlying63 Ue rfl ov fv fs.length (flat fs) rfl (ue c.own _) (.o (F.heap.size) 1 1) 1 [.slice ra rl rc,.i op,.slice wa wl wc,.slice ba bl bc] rfl rfl (gZ.new _ _ _ _ _) (by intro u E;simp at E;rcases E with rfl|rfl|rfl|rfl<;>rfl) (by have:=j.out;unfold maxLen;omega) (by have:=j.out;omega) (km G (km g.size (aK _).size)) ?_;intro P L C t _;obtain⟨M,N,rfl⟩:=nX C;have HO:=jh C;have H:=jh t;have p:=c.out.blk;have q:=(t.block (ki (c.high _ c.mine.1) (aK _).size) c.apart.2.2.symm).trans (aB p);have R:=iM q;have l:=(t.block (qq.1 f).1 (λe=>jg1 _ (zp HM.own _ e.symm).2)).trans f;clear C t p q;refine b _ _ l (λ_=>?_);clear b K;refine fG 8 12 ?_;refine fG 9 13 ?_;refine kO (rs:=[10]) oA ot ?_;refine ke rfl (λK b=>?_) kp;go_simp;refine b _ _ ((Below.heap_setCell _ _ _ _ (by show w.heap.size≠mb;omega)).trans l) (λ_=>?_);clear b K;refine qf4 oA ?_ _;go_wp2_with fail;refine yb (v:=.tuple #[]) (by simp[results,results29,go_sem]) rfl ?_;refine⟨rfl,_,L,?_,?_,rfl⟩
  .exact Gr.trans ⟨kL (aJ g (aK _)),.inl rfl⟩ H
  .unfold kU;rw[qT,bV];exact HO
def Dp{ra:bj}{rc:Nat}{wa:bj}{wc:Nat}{ba:bj}{bc:Nat}{f:Fr}{L VW VA:bt}(h:dm B O w mb en aC m)(x:m.fr.length<=100000000)(r:f.op≠67/\bD f.op)(T:cK (λb=>¬O b) w f.rest ra L)(U:cK (λb=>¬O b) w f.row wa VW)(S:aT (λb=>¬O b) w f.aside ba VA)(hc:f.rest.length<=rc/\f.row.length<=wc/\f.aside.length<=bc) :
 Calls prog 29 #[.po mb,.agg #[.slice ra f.rest.length rc,.i f.op,.slice wa f.row.length wc,.slice ba f.aside.length bc]] w (K8 B O w mb en aC { m with fr:=f::m.fr }):=by
 have⟨k,n,a,s,aa,al,ac,ta,tl,tc,na,nl,nc,sv,fv,us,fs,h⟩:=h;refine (Dm h x).mono ?_;rintro e w' ⟨rfl,c,y,v,K,rfl⟩;have o:=h.apart;have j:cm y (y.setCell ⟨mb,15,none⟩ c) (some mb):=dY (bM _ _) _ _ _;have D:=dB.gr v h.mine.2;have I:qx O fv c mb:=.inl ⟨h.mine.1,o.2.2⟩;have F:dB (qx O fv c) y (qx O fv c) (y.setCell ⟨mb,15,none⟩ c):=dB.ofRow j (λq e=>by cases e;exact I);have t:=D.trans F;have E:=(v.block (h.high _ h.mine.1) o.2.2.symm).trans h.blk;have p:=(nG E c).2.1;have d:∀g,O g->g≠mb->fv.ownBlock≠some g->(y.setCell ⟨mb,15,none⟩ c).heap[g]?=w.heap[g]?:=λg A Q R=>(j.block g (ki (h.high g A) v.1.size) (by simpa using Q)).trans (v.block (h.high g A) R.symm);have G:∀g,c.ownBlock=some g->g≠mb:=λg e u=>by
  subst u;rcases v.2 with z|⟨V,z,C⟩
  .exact o.2.2 (by rw[<-z,e])
  .rw[e]at z;cases z;have:=h.high _ h.mine.1;omega
 have H:lM f (yF ra f.rest.length rc f.op wa f.row.length wc ba f.aside.length bc)=[]:=by unfold lM;rw[if_neg r.1]
 refine⟨rfl,_,t,_,_,_,_,_,_,_,_,_,_,_,_,_,_,_,_,_,h.push t p (h.jL.kept t λg e=>⟨.inl ⟨h.jL.mine g e,(o.1 g e).2⟩,d g (h.jL.mine g e) (o.1 g e).1 (o.1 g e).2⟩) (iT K λg e=>j.block g (zp K g e).2 (by simpa using G g e))
  ⟨ra,rc,wa,wc,ba,bc,L,VW,rfl,r.2,hc,t.Kl T,t.Kl U,λe=>absurd e r.1,λ_=>⟨VA,t.U5 S⟩⟩ (by rw[H,qd1];exact h.nodup) (λg A J=>.inl ⟨A,J⟩) (λg C=>d g (h.sZ.mine g C).1 (o.2.1 g C).1 (o.2.1 g C).2.1) (λg e=>.inr e) (λb l=>?_)⟩
 by_cases e:b=mb
 .subst e;exact⟨_,_,p⟩
 .rcases l with l|l
  .rw[d b l.1 e l.2];exact h.cells b l.1
  .rcases K.2 with⟨u,_⟩|⟨g,N,P,u,_,M,_⟩
   .rw[u]at l;cases l
   .rw[u]at l;cases l;rw[j.block _ (qq.1 M).1 (by simpa using e)];exact⟨_,_,M⟩
end
open Pe
structure Mc where
 B:Nat
 mb:Nat
 en:En
 aC:Int
 W:bx
 O:br
abbrev Mc.res (c:Mc) (ps:Nat->Ma->Prop):pq where
 G i W ok:=∃m O,ps i m/\dm c.B O W c.mb c.en c.aC m/\dB c.O c.W O W/\∀b,ok b->¬O b
 grow:=λi W ok w ⟨m,O,h0,h1,h2,h3⟩ hg=>⟨m,O,h0,h1.grow hg,h2.trans (dB.grow hg),λb hb hO=>by
  rcases hb with hb|hb
  .exact h3 b hb.2 hO
  .have:=h1.high b hO;omega⟩
def YG (mb:Nat):cg:=.po mb
def XW (mb:Nat):A1:=.one (.d (.v (YG mb)))
def BF{O a ok:br}{w w':bx}(h:dB O w a w')(d:∀b,ok b->¬O b):∀b,b<w.heap.size->ok b->¬a b/\w'.heap[b]?=w.heap[b]?:=λb f hk =>
 ⟨λe=>by rcases h.new b e with c|c;exact d b hk c;omega,h.block b f (d b hk)⟩
def ec:Go.Proofs.YtgfdimkbfnpepaaGreat.Out->Int
 | .no e _=>e
 | _=>0
def oP:Go.Proofs.YtgfdimkbfnpepaaGreat.Out->Ma->Prop
 | .go m=>λx=>x=m
 | .no e m=>λx=>e≠0/\x.paid=m.paid/\x.said=m.said
 | .stuck=>λ_=>False
def EM (m:Ma):Ma->Prop:=λx=>x=m
def p2 (p q:Ma->Prop):Nat->Ma->Prop
 | 0=>p
 | _+1=>q
def HM (c:Mc) (p q:Ma->Prop) (f:FuncId) (args:List A1) (res:AV):Prop:=@Holds (c.res (p2 p q)) prog (@Sp.mk f (XW c.mb::args) res ⟨some (0,1)⟩ fr0)
def HO (c:Mc) (m:Ma) (f:FuncId) (args:List A1) (o:Go.Proofs.YtgfdimkbfnpepaaGreat.Out):Prop:=HM c (EM m) (oP o) f args (.of (iA (ec o)))
section
variable {c:Mc}{p q p' q':Ma->Prop}{f:FuncId}{args:List A1}{res:AV}{m:Ma}{o:Go.Proofs.YtgfdimkbfnpepaaGreat.Out}
def HM.at(h:HM c p q f args res){ps:Nat->Ma->Prop}(i:Nat)(hi:∀x,ps i x->p x:=by exact λ_ h=>h)(s:∀x,q x->ps (i+1) x:=by exact λ_ h=>h) : @Holds (c.res ps) prog (@Sp.mk f (XW c.mb::args) res ⟨some (i,i+1)⟩ fr0) :=
 have r:=@Holds.OT (c.res (p2 p q)) _ _ h
 @Holds.mk (c.res ps) _ _ r λA w B ⟨m,O,k,l,n,o⟩ t=>(@Holds.runM (c.res (p2 p q)) _ _ h 0 1 rfl A w B ⟨m,O,hi m k,l,n,o⟩ t).mono
  λe w' ⟨d,a,⟨b,O',u,v,y,z⟩,g,j⟩=>⟨d,a,⟨b,O',s b u,v,y,z⟩,g,j⟩
def HM.mono(h:HM c p q f args res)(hi:∀x,p' x->p x)(a:∀x,q x->q' x):HM c p' q' f args res:=h.at (ps:=p2 p' q') 0 hi a
def Sq (p:Ma->Prop) (l:List (Ma->Prop)):Nat->Ma->Prop
 | 0=>p
 | i+1=>(l[i]?).getD λ_=>False
def runM(l:List (Ma->Prop))(T:Hints){f:FuncId}{a:Func}(v:prog.funcs[f]?=some a)(b:List { s:Sp // @Holds (c.res (Sq (EM m) l)) prog s }){args:List A1}{res:AV}{ob:List Prop}
 (h:asked (Wd (some (0,l.length)) false prog a (a.body.getD .skip) T [] (b.map (·.1)) (XW c.mb::args))=some (res,[],(b.map (·.1)).map (λs=>s.args=s.args),ob)) (hob:∀p∈ob,p) (hq:∀x,Sq (EM m) l l.length x->q x:=by exact λ_ h=>h)
 (hb:a.body.isSome:=by kernel_rfl) (hn:(a.name == "runtime.NumGoroutine")=false:=by kernel_rfl):HM c (EM m) q f args res:=by
 have:=@YJ (c.res (Sq (EM m) l)) ⟨some (0,l.length)⟩ f a v T [] ot b _ _ ob h hob hb hn;have u:=@Holds.OT (c.res (Sq (EM m) l)) _ _ this;exact @Holds.mk (c.res (p2 (EM m) q)) _ _ u λD w E ⟨m,O,n,o,r,t⟩ y=>(@Holds.runM (c.res (Sq (EM _) l)) _ _ this 0 l.length rfl D w E ⟨m,O,n,o,r,t⟩ y).mono
  λe w' ⟨i,d,⟨g,O',z,A,B,C⟩,j,k⟩=>⟨i,d,⟨g,O',hq g z,A,B,C⟩,j,k⟩
def sI(l:List Ma)(T:Hints){f:FuncId}{a:Func}(g:prog.funcs[f]?=some a)(b:List { s:Sp // @Holds (c.res (Sq (EM m) (l.map EM++[oP o]))) prog s }){args:List A1}{ob:List Prop}
 (hob:∀p∈ob,p) (h:asked (Wd (some (0,l.length+1)) false prog a (a.body.getD .skip) T [] (b.map (·.1)) (XW c.mb::args))=some (.of (iA (ec o)),[],(b.map (·.1)).map (λs=>s.args=s.args),ob):=by kernel_rfl)
 (hb:a.body.isSome:=by kernel_rfl) (hn:(a.name == "runtime.NumGoroutine")=false:=by kernel_rfl):HO c m f args o:=by
 have d:(l.map EM++[oP o]).length=l.length+1:=ot
 refine runM (q:=oP o) (l.map EM++[oP o]) T g b (by rw[d];exact h) hob (λx e=>?_) hb hn;rw[d]at e;simpa[Sq]using e
def eH(l:List Ma){f:FuncId}{a:Func}(d:prog.funcs[f]?=some a)(b:List { s:Sp // @Holds (c.res (Sq (EM m) (l.map EM++[oP o]))) prog s }){args:List A1}
 (h:asked (Wd (some (0,l.length+1)) false prog a (a.body.getD .skip) [] [] (b.map (·.1)) (XW c.mb::args))=some (.of (iA (ec o)),[],(b.map (·.1)).map (λs=>s.args=s.args),[]):=by kernel_rfl)
 (hb:a.body.isSome:=by kernel_rfl) (hn:(a.name == "runtime.NumGoroutine")=false:=by kernel_rfl):HO c m f args o:=sI l [] d b ot h hb hn
def Ol(l:List Ma)(T:Hints){f:FuncId}{a:Func}(d:prog.funcs[f]?=some a)(b:List { s:Sp // @Holds (c.res (Sq (EM m) (l.map EM))) prog s }){args:List A1}{ob:List Prop}
 (hob:∀p∈ob,p) (hq:∀x,Sq (EM m) (l.map EM) l.length x->oP o x) (h:asked (Wd (some (0,l.length)) false prog a (a.body.getD .skip) T [] (b.map (·.1)) (XW c.mb::args))=some (.of (iA (ec o)),[],(b.map (·.1)).map (λs=>s.args=s.args),ob):=by kernel_rfl)
 (hb:a.body.isSome:=by kernel_rfl) (hn:(a.name == "runtime.NumGoroutine")=false:=by kernel_rfl):HO c m f args o :=
 runM (q:=oP o) (l.map EM) T d b (by rw[qf3];exact h) hob (by rw[qf3];exact hq) hb hn
def HO.of(u:∀(args:Array cg) (w:bx),(callFunc f args).run prog w =.ok (.enter f args) w)(h:∀O w vs,dm c.B O w c.mb c.en c.aC m->dU (gm (λ_=>none) (λb=>¬O b) w) args vs->Calls prog f (YG c.mb::vs).toArray w (jK c.B O w c.mb c.en c.aC o)):HO c m f args o :=
 @Holds.mk (c.res (p2 (EM m) (oP o))) _ _ ⟨u,rfl⟩ λok w vs r g=>by
  obtain⟨x,O,rfl,s,hF,j⟩:=r
  match vs,g with
  | v::vs,⟨y,g⟩ =>
   rw[bW y];refine (h O w vs s (g.mono λa v h=>gm.keep ⟨qS _,λb _ t=>⟨j b t,λ_=>rfl⟩⟩ (λ_ _ e=>e) a v h)).mono ?_;rintro e w' ⟨O',d,i⟩;refine⟨d.size,λb=>¬O' b,?_,BF d j,?_⟩
   .cases o with
    | stuck=>exact i.elim
    | no k m=>have⟨l,_,z,n,p,q⟩:=i;exact⟨z,O',⟨l,n,p⟩,q,hF.trans d,λb h=>h⟩
    | go m=>exact⟨m,O',rfl,i.2,hF.trans d,λb h=>h⟩
   .cases o with
    | stuck=>exact i.elim
    | no k m=>exact⟨_,i.2.1,fI.v _⟩
    | go m=>exact⟨_,i.1,fI.v _⟩
def HM.of{m':Ma}(p:∀(args:Array cg) (w:bx),(callFunc f args).run prog w =.ok (.enter f args) w)(h:∀O w vs,dm c.B O w c.mb c.en c.aC m->dU (gm (λ_=>none) (λb=>¬O b) w) args vs->Calls prog f (YG c.mb::vs).toArray w (K8 c.B O w c.mb c.en c.aC m')):HM c (EM m) (EM m') f args undefA :=
 @Holds.mk (c.res (p2 (EM m) (EM m'))) _ _ ⟨p,rfl⟩ λok w vs l g=>by
  obtain⟨x,O,rfl,n,hF,i⟩:=l
  match vs,g with
  | v::vs,⟨q,g⟩ =>
   rw[bW q];refine (h O w vs n (g.mono λa v h=>gm.keep ⟨qS _,λb _ o=>⟨i b o,λ_=>rfl⟩⟩ (λ_ _ e=>e) a v h)).mono ?_;rintro e w' ⟨j,O',d,k⟩;exact⟨d.size,λb=>¬O' b,⟨m',O',rfl,k,hF.trans d,λb h=>h⟩,BF d i,_,j,fI.v _⟩
def HO.go{B mb:Nat}{en:En}{aC:Int}{O:br}{w:bx}(h:HO ⟨B,mb,en,aC,w,O⟩ m f args o)(g:dm B O w mb en aC m){vs:bk}(c:dU (gm (λ_=>none) (λb=>¬O b) w) args vs):Calls prog f (YG mb::vs).toArray w (jK B O w mb en aC o):=by
 refine (@Holds.runM (Mc.res ⟨B,mb,en,aC,w,O⟩ (p2 (EM m) (oP o))) _ _ h 0 1 rfl (λb=>¬O b) w (YG mb::vs) ⟨m,O,rfl,g,dB.refl _ _,λ_ h=>h⟩ ⟨fI.v _,c⟩).mono ?_;rintro e w' ⟨_,l,⟨k,O',a,d,j,p⟩,_,v,rfl,i⟩;have c:=bW i;subst c;refine⟨O',j,?_⟩
 cases o with
 | stuck=>exact a.elim
 | no n m=>exact⟨a.1,rfl,k,a.2.1,a.2.2,d⟩
 | go m=>cases a;exact⟨rfl,d⟩
def SC{x:Va}{st:an}(g:m.st=x::st):HM c (EM m) (EM { m with st:=st }) 118 [] (.of (pF x)) :=
 @Holds.mk (c.res (p2 (EM m) (EM _))) _ _ (rM func118) λok w o i f=>by
  obtain⟨y,O,rfl,j,hF,k⟩:=i
  match o,f with
  | [v],⟨n,_⟩ =>
   rw[bW n];refine (yB j g).mono ?_;rintro e w' ⟨u,rfl,l,a,d⟩;exact⟨a.size,λb=>¬O b,⟨_,O,rfl,d,hF.trans a,λb h=>h⟩,BF a k,u,rfl,FJ l⟩
def HO_pay:HO c m 116 [] (uH c.aC m .go):=HO.of (bK func116) λO w d a b=>by
 match d,b with
 | [],_=>exact Ff a
def vE{l:an}(h:bz m l ≠ .stuck):vsizes l<=20000000:=by
 unfold bz at h;split at h
 .exact absurd rfl h
 .omega
def len_vsizes:∀l:an,l.length<=vsizes l
 | []=>zE _
 | x::l=>by have:=eP x;have:=len_vsizes l;simp only[vsizes,jt];omega
def IX{l:an}(n:Nat)(hk:okVs l)(hn:n=7\/l=[])(b:bz m l ≠ .stuck)(f:m.st.length<=50000000):HO c m 154 [.one (.d (.s n (vasD l)))] (bz m l):=HO.of (bK func154) λO w i g e=>by
 match i,e with
 | [v],⟨e,_⟩ =>
  obtain⟨a,c,V,rfl,j,h⟩:=lV hk hn e;have:=len_vsizes l;have:=vE b;exact Fh g h (vE b) od
def SE(k n a:Int)(s:bo)(i j q:Nat)(args:an)(types:ao)(code:aE)(hk:okV (.mk k n a s args types code))(A:i=7\/args=[])(B:j=2\/types=[])(C:q=5\/code=[])(o:bz m [.mk k n a s args types code] ≠ .stuck)(t:m.st.length<=50000000) :
 HO c m 154 [.one (.d (.s 7 [[.v (.i k),.v (.i n),.v (.i a),.v (.string s),.s i (vasD args),.s j (tysD types),.s q (ndsD code)]]))] (bz m [.mk k n a s args types code]):=HO.of (bK func154) λO w G D p=>by
 match G,p with
 | [v],⟨p,_⟩ =>
  have E:fI (λb=>¬O b) w (.s 7 (vasD [.mk k n a s args types code])) v:=by
   obtain⟨H,c,U,rfl,u,z,I,g⟩:=fH (p:fI _ w (.s 7 _) v);refine .s U u z (λx r e=>?_) (λx r y d h f=>?_) (λx r y d h f=>?_)
   .match x,e with
    | 0,e=>cases e;rfl
   .match x,h with
    | 0,h =>
     cases h
     match y,f with
     | 0,f|1,f|2,f|3,f|4,f|5,f|6,f=>exact (g 0 _ _ _ rfl rfl).1
   .match x,h with
    | 0,h =>
     cases h
     match y,f with
     | 0,f=>cases f;exact (g 0 _ 0 _ rfl rfl).2
     | 1,f=>cases f;exact (g 0 _ 1 _ rfl rfl).2
     | 2,f=>cases f;exact (g 0 _ 2 _ rfl rfl).2
     | 3,f=>cases f;exact (g 0 _ 3 _ rfl rfl).2
     | 4,f =>
      cases f;have:=(g 0 _ 4 _ rfl rfl).2;rcases A with rfl|rfl
      .exact this
      .exact gG this
     | 5,f =>
      cases f;have:=(g 0 _ 5 _ rfl rfl).2;rcases B with rfl|rfl
      .exact this
      .exact gG this
     | 6,f =>
      cases f;have:=(g 0 _ 6 _ rfl rfl).2;rcases C with rfl|rfl
      .exact this
      .exact gG this
  obtain⟨a,c,V,rfl,J,F⟩:=lV (n:=7) (l:=[.mk k n a s args types code]) ⟨hk,trivial⟩ (.inl rfl) E;exact Fh D F (vE o) oB
def OZ(f:Fr)(i j k:Nat)(l:f.op≠67/\bD f.op)(t:okNs f.rest)(p:i=5\/f.rest=[])(u:okNs f.row)(q:j=5\/f.row=[])(x:okVs f.aside)(r:k=7\/f.aside=[])(o:m.fr.length<=50000000) :
 HM c (EM m) (EM { m with fr:=f::m.fr }) 29 [.agg [.d (.s i (ndsD f.rest)),.d (.v (.i f.op)),.d (.s j (ndsD f.row)),.d (.s k (vasD f.aside))]] undefA:=HM.of (bK func29) λO w G z n=>by
 match G,n with
 | [v],⟨n,_⟩ =>
  obtain⟨H,rfl,B⟩:=n
  match H,B with
  | [a,b,c,d],⟨C,D,E,F,_⟩ =>
   obtain⟨N,P,J,rfl,e,hR⟩:=xU t p C;obtain⟨Q,wc,K,rfl,g,A⟩:=xU u q E;obtain⟨L,M,I,rfl,h,y⟩:=lV x r F;have:=bW D;subst this;exact Dp z od l hR A y ⟨e,g,h⟩
abbrev sm (m:Ma) (s:an):Ma:={ m with st:=s }
variable {ps:Nat->Ma->Prop}
def pu (h:HM c p q f args res) (i:Nat) (hi:∀x,ps i x->p x:=by exact λ_ h=>h) (hj:∀x,q x->ps (i+1) x:=by exact λ_ h=>h):{ s:Sp // @Holds (c.res ps) prog s }:=⟨_,h.at i hi hj⟩
def Hd.up{s:Sp}{R:pq}(h:Hd s)(e:s.mv=mv0)(b:s.fr=fr0) : @Holds R prog s:=by obtain⟨f,a,r,v,c⟩:=s;cases e;cases b;exact @Holds.mk R _ _ (@Holds.OT res0 _ _ h) (@Holds.runN res0 _ _ h rfl)
def up {s:Sp}{R:pq}(h:Hd s) (e:s.mv=mv0:=by rfl) (e2:s.fr=fr0:=by rfl):{ s:Sp // @Holds R prog s }:=⟨s,Hd.up h e e2⟩
def X0(m:Ma)(x:Va)(s:an):HM c (EM (sm m (x::s))) (EM (sm m s)) 118 [] (.of (pF x)):=SC rfl
def tk (m:Ma) (x:Va) (s:an) (i:Nat) (hi:∀y,ps i y->EM (sm m (x::s)) y:=by exact λ_ h=>h) (hj:∀y,EM (sm m s) y->ps (i+1) y:=by exact λ_ h=>h):{ s:Sp // @Holds (c.res ps) prog s }:=pu (X0 m x s) i hi hj
end
set_option maxHeartbeats 4000000
def gY{n:Int}(h:kE n):-1152921504606846976<=n/\n<=1152921504606846976:=jb1 h
def Zi{k:IntKind}{a b:Int}{w w':bx}(h:a=b)(c:w'=w):Ending.returned (.int k a) =.returned (.int k b)/\w'=w:=by rw[h];exact⟨rfl,c⟩
def P2 (w:bx) (r:Int×Int) (e:Ending) (w':bx):Prop:=e =.returned (.tuple #[.i r.1,.i r.2])/\w'=w
def GM(a:Int)(w:bx):Calls prog 212 #[.i a] w (P2 w (kF a)):=by
 unfold kF;cases h:kE a
 all_goals
  simp only[ja5,↓reduceIte];go_enter func212,ntmps212;go_wp2_with (go_at_call 78;refine (jI _ _).mono ?_;rintro e w' ⟨rfl,rfl⟩;rw[h]);go_ret2;exact⟨rfl,rfl⟩
def Lc(a b:Int)(w:bx):Calls prog 200 #[.i a,.i b] w (P2 w (addN a b)):=by
 unfold addN;have c:=jh (GM (a+b));cases d:kE a<;>cases f:kE b
 all_goals simp only[ja5,and_self,and_false,je2,↓reduceIte]
 rotate_left 3
 generalize kF (a+b)=r at c|-;have g:wrap64 (a+b)=a+b:=by have:=gY d;have:=gY f;unfold wrap64;omega
 rotate_right 3
 all_goals
  go_enter func200,ntmps200;go_wp2_with (first
   | (go_at_call 78;refine (jI _ _).mono ?_;rintro e w' ⟨rfl,rfl⟩;first|rw[d]|rw[f])
   | (go_at_call 212;refine (c _).mono ?_;rintro e w' ⟨rfl,rfl⟩))
  go_ret2;exact⟨rfl,rfl⟩
def Vo(a b:Int)(w:bx):Calls prog 201 #[.i a,.i b] w (P2 w (Iu a b)):=by
 unfold Iu;have c:=jh (GM (a - b));cases d:kE a<;>cases f:kE b
 all_goals simp only[ja5,and_self,and_false,je2,↓reduceIte]
 rotate_left 3
 generalize kF (a - b)=r at c|-;have g:wrap64 (a - b)=a - b:=by have:=gY d;have:=gY f;unfold wrap64;omega
 rotate_right 3
 all_goals
  go_enter func201,ntmps201;go_wp2_with (first
   | (go_at_call 78;refine (jI _ _).mono ?_;rintro e w' ⟨rfl,rfl⟩;first|rw[d]|rw[f])
   | (go_at_call 212;refine (c _).mono ?_;rintro e w' ⟨rfl,rfl⟩))
  go_ret2;exact⟨rfl,rfl⟩
def o8(a:Int)(w:bx)(h:kE a):Calls prog 198 #[.i a] w λe w'=>e =.returned (.int .u64 (a.natAbs:Int))/\w'=w:=by
 have⟨c,d⟩:=gY h;rcases (by omega:a<0\/0<=a)with b|b
 all_goals
  go_enter func198,ntmps198
  go_wp2
  go_ret;exact Zi od rfl
def TA(a:Int)(w:bx):Calls prog 167 #[.i a] w (P2 w (EJ a)):=by
 unfold EJ;cases b:kE a
 all_goals simp only[ja5,↓reduceIte]
 rotate_left
 have c:(a.natAbs:Int)<=1152921504606846976:=by have:=gY b;omega
 rotate_right
 all_goals
  go_enter func167,ntmps167;go_wp2_with (first
   | (go_at_call 78;refine (jI _ _).mono ?_;rintro e w' ⟨rfl,rfl⟩;rw[b])
   | (go_at_call 198;refine (o8 _ _ b).mono ?_;rintro e w' ⟨rfl,rfl⟩))
  go_ret2;exact⟨rfl,rfl⟩
def ES{a b q r:Int}(hb:b≠0)(e:b*q+r=a)(d:0<=r)(g:r<(b.natAbs:Int)):a / b=q/\a % b=r:=by
 have c:a % b=r:=by
  rw[<-e,Int.mul_add_emod_self_left];rcases Int.lt_or_gt_of_ne hb with h|i
  .rw[<-Int.emod_neg];exact Int.emod_eq_of_lt d od
  .exact Int.emod_eq_of_lt d od
 have f:b*(a / b)=b*q:=by have:=Int.mul_ediv_add_emod a b;rw[c]at this;omega
 exact⟨Int.eq_of_mul_eq_mul_left hb f,c⟩
def Cs(a:Int){b:Int}(hb:b≠0):(a.tdiv b).natAbs<=a.natAbs/\(a.tmod b).natAbs<b.natAbs/\(0<=a->0<=a.tmod b)/\(a<=0->a.tmod b<=0)/\b*a.tdiv b+a.tmod b=a:=by
 refine⟨Int.natAbs_tdiv_le_natAbs a b,?_,λh=>Int.tmod_nonneg b h,λh=>?_,Int.mul_tdiv_add_tmod a b⟩
 .rw[Int.natAbs_tmod];exact Nat.mod_lt _ od
 .have:=Int.tmod_nonneg (a:=-a) b od;rw[Int.neg_tmod]at this;omega
def R4(a:Int){b:Int}(hb:b≠0):(0<=a.tmod b->a / b=a.tdiv b/\a % b=a.tmod b)/\(a.tmod b<0->0<b->a / b=a.tdiv b - 1/\a % b=a.tmod b+b)/\(a.tmod b<0->b<0->a / b=a.tdiv b+1/\a % b=a.tmod b - b):=by
 have⟨_,d,_,_,c⟩:=Cs a hb;generalize a.tdiv b=q at *;generalize a.tmod b=r at *;refine⟨λh=>ES hb c h od,λh f=>ES hb ?_ od od,λh e=>ES hb ?_ od od⟩
 .rw[Int.mul_sub];omega
 .rw[Int.mul_add];omega
def Qi(a b:Int)(w:bx)(d:kE a)(hb:kE b):Calls prog 199 #[.i a,.i b] w λe w'=>∃q r m,e =.returned (.tuple #[.i q,.i r,.i m])/\(b=0->q=0/\r=0/\m=6)/\(b≠0->q=a / b/\r=a % b/\m=0)/\∃n,w'=w.drewN n:=by
 by_cases f:b=0
 .subst f;go_enter func199,ntmps199;go_wp2_with (go_at_call 78;refine (jI _ _).mono ?_;rintro e w' ⟨rfl,rfl⟩;first|rw[d]|rw[hb])
  go_ret3
  exact⟨0,0,6,rfl,λ_=>⟨rfl,rfl,rfl⟩,λh=>absurd rfl h,0,rfl⟩
 .have⟨g,j,k⟩:=R4 a f;have⟨t,u,v,x,y⟩:=Cs a f;have p:=gY d;have s:=gY hb;have H:(b==0)=false:=qa5.2 f;have⟨D,E⟩:-1152921504606846976<=a.tdiv b/\a.tdiv b<=1152921504606846976:=by omega
  have⟨F,G⟩:-1152921504606846976<=a.tmod b/\a.tmod b<=1152921504606846976:=od
  have⟨z,A⟩:=p;have⟨B,C⟩:=s;have l:=jh f;rcases (by omega:0<=a.tmod b\/a.tmod b<0/\0<b\/a.tmod b<0/\b<0)with h|⟨h,o⟩|⟨h,o⟩
  .have c:=jh (g h);clear g j k t u v x y;go_enter func199,ntmps199;go_wp2_with (go_at_call 78;refine (jI _ _).mono ?_;rintro e w' ⟨rfl,rfl⟩;first|rw[d]|rw[hb])
   go_quiet (fail)
   go_wp2
   go_ret3
   exact⟨_,_,0,rfl,λh=>absurd h l,λ_=>⟨c.1.symm,c.2.symm,rfl⟩,_,rfl⟩
  .have c:=jh (j h o);clear g j k t u v x y;go_enter func199,ntmps199;go_wp2_with (go_at_call 78;refine (jI _ _).mono ?_;rintro e w' ⟨rfl,rfl⟩;first|rw[d]|rw[hb])
   go_quiet (fail)
   go_wp2
   go_ret3
   exact⟨_,_,0,rfl,λh=>absurd h l,λ_=>⟨c.1.symm,c.2.symm,rfl⟩,_,rfl⟩
  .have c:=jh (k h o);clear g j k t u v x y;go_enter func199,ntmps199;go_wp2_with (go_at_call 78;refine (jI _ _).mono ?_;rintro e w' ⟨rfl,rfl⟩;first|rw[d]|rw[hb])
   go_quiet (fail)
   go_wp2
   go_ret3
   exact⟨_,_,0,rfl,λh=>absurd h l,λ_=>⟨c.1.symm,c.2.symm,rfl⟩,_,rfl⟩
def He{a b:Int}(h:(a<0/\b<0)\/(0<=a/\0<=b)):a*b=((a.natAbs*b.natAbs:Nat):Int):=by
 have c:(a*b).natAbs=a.natAbs*b.natAbs:=Int.natAbs_mul a b;have d:0<=a*b:=by
  rcases h with⟨x,y⟩|⟨x,y⟩
  .exact Int.mul_nonneg_of_nonpos_of_nonpos od od
  .exact Int.mul_nonneg x y
 rw[<-c];omega
def DY{a b:Int}(h:(a<0/\0<=b)\/(0<=a/\b<0)):a*b = -((a.natAbs*b.natAbs:Nat):Int):=by
 have c:(a*b).natAbs=a.natAbs*b.natAbs:=Int.natAbs_mul a b;have d:0 <= -(a*b):=by
  rcases h with⟨x,y⟩|⟨x,y⟩
  .rw[<-Int.neg_mul];exact Int.mul_nonneg od y
  .rw[<-Int.mul_neg];exact Int.mul_nonneg x od
 rw[<-c];omega
def Ur(a b:Int)(w:bx)(f:kE a)(hb:kE b):Calls prog 202 #[.i a,.i b] w (P2 w (mulN a b)):=by
 have o:=gY f;have p:=gY hb;have n:=λw=>DX a.natAbs b.natAbs od od w;have s:mulN a b=kF (a*b):=by unfold mulN;rw[if_pos ⟨f,hb⟩]
 rw[s];have k:(a*b).natAbs=a.natAbs*b.natAbs:=Int.natAbs_mul a b;have⟨j,g,q,d,h⟩:∃j g:Nat,a.natAbs*b.natAbs / 18446744073709551616=j/\a.natAbs*b.natAbs % 18446744073709551616=g/\(kF (a*b)=(0,11)/\(j≠0\/j=0/\(1152921504606846976:Int)<(g:Int))\/kF (a*b)=(a*b,0)/\j=0/\((g:Int)<=1152921504606846976)/\g=a.natAbs*b.natAbs):=by
  refine⟨_,_,rfl,rfl,?_⟩
  by_cases h:kE (a*b)
  .have:=gY h;exact .inr ⟨by unfold kF;rw[if_pos h],od,od,od⟩
  .have : ¬(-1152921504606846976<=a*b/\a*b<=1152921504606846976):=λc=>h (qg0 c);exact .inl ⟨by unfold kF;rw[if_neg h],od⟩
 rw[q,d]at n;have HM:=jh n;clear n q d s;have m:=jh k;clear k o p;rcases h with⟨e,h|⟨rfl,h⟩⟩|⟨e,rfl,h,d⟩
 .rw[e];have x:((j:Int) != 0):=by rw[bne_iff_ne];omega
  clear e h;go_enter func202,ntmps202;go_wp2_with (first
   | (go_at_call 78;refine (jI _ _).mono ?_;rintro e w' ⟨rfl,rfl⟩;first|rw[f]|rw[hb])
   | (go_at_call 198;first|((with_reducible refine (o8 _ _ f).mono ?_);rintro e w' ⟨rfl,rfl⟩)|((with_reducible refine (o8 _ _ hb).mono ?_);rintro e w' ⟨rfl,rfl⟩))
   | (go_at_call 213;refine (HM _).mono ?_;rintro e w' ⟨rfl,rfl⟩))
  go_ret2;exact⟨rfl,rfl⟩
 .rw[e];clear e;go_enter func202,ntmps202;go_wp2_with (first
   | (go_at_call 78;refine (jI _ _).mono ?_;rintro e w' ⟨rfl,rfl⟩;first|rw[f]|rw[hb])
   | (go_at_call 198;first|((with_reducible refine (o8 _ _ f).mono ?_);rintro e w' ⟨rfl,rfl⟩)|((with_reducible refine (o8 _ _ hb).mono ?_);rintro e w' ⟨rfl,rfl⟩))
   | (go_at_call 213;refine (HM _).mono ?_;rintro e w' ⟨rfl,rfl⟩))
  go_ret2;exact⟨rfl,rfl⟩
 .rw[e];have⟨r,t,l⟩:∃r,a*b=r/\(decide (a<0)=decide (b<0)/\r=(g:Int)\/decide (a<0) = !decide (b<0)/\r = -(g:Int)):=by
   refine⟨_,rfl,?_⟩;rcases (by omega:(a<0/\b<0)\/(0<=a/\0<=b)\/(a<0/\0<=b)\/(0<=a/\b<0))with h|h|h|h
   .exact .inl ⟨by rw[decide_eq_decide];omega,by rw[He (.inl h),d]⟩
   .exact .inl ⟨by rw[decide_eq_decide];omega,by rw[He (.inr h),d]⟩
   .exact .inr ⟨by rw[<-decide_not,decide_eq_decide];omega,by rw[DY (.inl h),d]⟩
   .exact .inr ⟨by rw[<-decide_not,decide_eq_decide];omega,by rw[DY (.inr h),d]⟩
  rw[t];clear e t d m;cases u:decide (a<0)<;>cases v:decide (b<0)<;>rw[u,v]at l<;>rcases l with⟨l,rfl⟩|⟨l,rfl⟩<;>first|cases l|skip
  all_goals
   go_enter func202,ntmps202;go_wp2_with (first
    | (go_at_call 78;refine (jI _ _).mono ?_;rintro e w' ⟨rfl,rfl⟩;first|rw[f]|rw[hb])
    | (go_at_call 198;first|((with_reducible refine (o8 _ _ f).mono ?_);rintro e w' ⟨rfl,rfl⟩)|((with_reducible refine (o8 _ _ hb).mono ?_);rintro e w' ⟨rfl,rfl⟩))
    | (go_at_call 213;refine (HM _).mono ?_;rintro e w' ⟨rfl,rfl⟩))
   go_ret2;exact⟨rfl,rfl⟩
