import Derived.Test.YtnamdihclpbdfabGreatKtZao
import Derived.WalkSpells
import Derived.Deep.LoopGhost
import Derived.Deep.RegionWith
namespace Go.Proofs.YtnamdihclpbdfabGreat
set_option linter.all false
open Go.Proofs.Tryz
open Go.ChangeShapes Go.WideShapes Go.ChangeAt Go.RowKit
set_option maxRecDepth 100000
set_option maxHeartbeats 1000000
def Za(w:cg)(a:bj)(n c:Nat):(binOp .eql 26 (.slice a n c) (.n0)).run prog w =.ok (.bool a.isNone) w:=by simp only[binOp];simp[Op.equal,Op.maxDepth,Lib.run_equalIn_slice_nil w 9999 26 29 a n c 0 0 underlying26]
attribute [local go_sem] Za
def IV (O:br) (W:cg) (l:ao) (e:Ending) (w':cg):Prop:=∃v us,e =.returned v/\nI O W w' v l us/\cq W w' none
def wB{O:br}{W:cg}{l:ao}{xv:cm}(h:Src O W l xv)(hn:l.length<=20000000):Calls prog 149 #[xv] W (IV O W l):=by
 have⟨n,s,e,f⟩:=h;have d:=lL (mO e f);rw[e]at d s;rcases s with⟨c,rfl,h0,z⟩|⟨p,c,rfl,a⟩
 .have y:l=[]:=jx h0;subst y;have t:Hid (IV O W [] (.returned (.n0)) W):=⟨_,[],rfl,⟨jd4 _ _ _ _,rfl,λi x u h=>by simp at h⟩,bf _ _⟩;clear d f;go_enter func149,ntmps149;go_wp2;go_ret;exact t.out
 .have b:=aK (w:=W) (.cells #[] 29);have HB:=jh (xF W (.cells #[] 29));have j:Hid (nI O W (W.alloc (.cells #[] 29)) (.o (W.heap.size) 0 0) [] []):=⟨⟨rfl,.inr ⟨W.heap.size,0,#[],rfl,jn _,HB.out,jn _,yb _,rfl,rfl⟩⟩,rfl,λi x u h=>by simp at h⟩;have v:Hid (gZ (W.alloc (.cells #[] 29)) (.slice (some p) l.length c) l.length (flat n)):=gZ.grow (.inr ⟨p,c,rfl,a⟩) b;have o:=jh b;have m:=jh f;clear a b f;go_enter func149,ntmps149;go_wp2_with (at_builtin;refine ed rfl _ _ 26 rfl W.heap.size 29 underlying26 mr rfl ov _ ([]:bo).length (flat []) rfl j.out.own _ l.length (flat n) rfl d.1 v.out d.2 vj (by simp only[qa0];omega) o.out.size ?_;intro r w' q b _;have g:=jh (dX o.out j.out.own (jn _) b.1);have k:=jh (j.out.more (v':=r) (w':=w') (l2:=l) (ns:=n) (by unfold dF;rw[bV,ju,e];exact q) e m.out);clear q b);go_ret;exact⟨_,_,rfl,by simpa using k.out,g.out⟩
def L9 (w:cg) (g o:Nat) (c0 c1 c2 c3 c4 c5 c6:cm):cg:=((((((w.setCell ⟨g,o,none⟩ c0).setCell ⟨g,o+1,none⟩ c1).setCell ⟨g,o+2,none⟩ c2).setCell ⟨g,o+3,none⟩ c3).setCell ⟨g,o+4,none⟩ c4).setCell ⟨g,o+5,none⟩ c5).setCell ⟨g,o+6,none⟩ c6
def Dy(a c1 c2 b d f g:cm):∀(us:bo),(∀u∈us,(nodeCells u).length=7)->∀i,i<us.length->flat (us.set i (.agg #[a,c1,c2,b,d,f,g]))=(((((((flat us).set (i*7) a).set (i*7+1) c1).set (i*7+2) c2).set (i*7+3) b).set (i*7+4) d).set (i*7+5) f).set (i*7+6) g
 | [],_,i,h=>by simp at h
 | x::us,j,0,_=>by
  have m:=j x oe
  match o:nodeCells x,m with
  | [r,s,t,v,w,y,z],_ =>
   show nodeCells (.agg #[a,c1,c2,b,d,f,g])++flat us=_;rw[show flat (x::us)=nodeCells x++flat us from rfl,o];rfl
 | x::us,j,i+1,h=>by
  have m:=j x oe;have q:=Dy a c1 c2 b d f g us (λu p=>j u (by simp[p])) i (by simpa using h);have e:∀(l:bo) (k:Nat) (c:cm),(nodeCells x++l).set ((i+1)*7+k) c=nodeCells x++l.set (i*7+k) c:=λl k c=>by rw[jf1 _ _ od,m,show (i+1)*7+k - 7=i*7+k by omega]
  have n:∀(l:bo) (c:cm),(nodeCells x++l).set ((i+1)*7) c=nodeCells x++l.set (i*7) c:=λl c=>by have:=e l 0 c;simpa using this
  rw[xT,show flat (x::us.set i (.agg #[a,c1,c2,b,d,f,g]))=nodeCells x++flat (us.set i (.agg #[a,c1,c2,b,d,f,g])) from rfl,q,show flat (x::us)=nodeCells x++flat us from rfl,n,e,e,e,e,e,e]
def Hr{B:Nat}{w:cg}{g cap:Nat}{us:bo}(f:dF B w (.o g us.length cap) us)(t:∀u∈us,(nodeCells u).length=7)(i:Nat)(hi:i<us.length)(a c1 c2 b c d e:cm) :
 dF B (L9 w g (i*7) a c1 c2 b c d e) (.o g us.length cap) (us.set i (.agg #[a,c1,c2,b,c,d,e]))/\cq w (L9 w g (i*7) a c1 c2 b c d e) (some g):=by
 unfold dF at f|-;rw[Dy _ _ _ _ _ _ _ us t i hi,je0];have⟨n,g1⟩:=f.stored (i*7) a;have⟨o,g2⟩:=n.stored (i*7+1) c1;have⟨p,h⟩:=o.stored (i*7+2) c2;have⟨q,j⟩:=p.stored (i*7+3) b;have⟨r,k⟩:=q.stored (i*7+4) c;have⟨s,l⟩:=r.stored (i*7+5) d;have⟨v,m⟩:=s.stored (i*7+6) e;exact⟨v,K6 (K6 (K6 (K6 (K6 (K6 g1 g2) h) j) k) l) m⟩
def zK (us:bo) (q:Nat) (vs:bo):Prop:=vs.length=us.length/\2*q<=us.length/\∀k,k<us.length->vs[k]?=if k<q\/us.length - 1 - q<k then us[us.length - 1 - k]? else us[k]?
def zK.step{us vs:bo}{q:Nat}(h:zK us q vs)(o:q<us.length - 1 - q){a b:cm}(i:vs[q]?=some a)(hb:vs[us.length - 1 - q]?=some b):zK us (q+1) ((vs.set q b).set (us.length - 1 - q) a):=by
 have⟨f,n,c⟩:=h;refine⟨by simp[f],od,λk j=>?_⟩;have d:=c q od;have e:=c (us.length - 1 - q) od;rw[oa,i]at d;rw[oa,hb]at e
 by_cases l:k=us.length - 1 - q
 .subst l;rw[ja6 (by simp[f];omega),oc,show us.length - 1 - (us.length - 1 - q)=q by omega,d]
 .rw[qf2 od]
  by_cases m:k=q
  .subst m;rw[ja6 od,oc,e]
  .rw[qf2 od,c k j]
   by_cases g:k<q\/us.length - 1 - q<k
   .rw[if_pos g,oc]
   .rw[if_neg g,oa]
def zK.done{us vs:bo}{q:Nat}(h:zK us q vs)(e:¬q<us.length - 1 - q):vs=us.reverse:=by
 have⟨c,d,b⟩:=h;refine List.ext_getElem? λk=>?_
 by_cases a:k<us.length
 .rw[b k a,List.getElem?_reverse a];split
  .rfl
  .rw[show us.length - 1 - k=k by omega]
 .rw[List.getElem?_eq_none od,List.getElem?_eq_none ot]
def zK.mem{us vs:bo}{q:Nat}(h:zK us q vs):∀u∈vs,u∈us:=λu b=>by
 obtain⟨k,a,rfl⟩:=qc3 b;have:=h.2.2 k (by rw[<-h.1];exact a);rw[qt a]at this;split at this
 .exact jz this.symm
 .exact jz this.symm
def BM{B:Nat}{w:cg}{g cap:Nat}{us:bo}{n:Nat}(l:dF B w (.o g n cap) us)(h:∀u∈us,(nodeCells u).length=7)(i:Nat){b c1 c2 c d e f:cm}(m:us[i]?=some (.agg #[b,c1,c2,c,d,e,f])) :
 (w.cell? ⟨g,i*7,none⟩=some b/\w.cell? ⟨g,i*7+1,none⟩=some c1/\w.cell? ⟨g,i*7+2,none⟩=some c2/\w.cell? ⟨g,i*7+3,none⟩=some c/\w.cell? ⟨g,i*7+4,none⟩=some d/\w.cell? ⟨g,i*7+5,none⟩=some e/\w.cell? ⟨g,i*7+6,none⟩=some f):=by
 have a:∀j x,j<7->(nodeCells (.agg #[b,c1,c2,c,d,e,f]))[j]?=some x->w.cell? ⟨g,i*7+j,none⟩=some x:=λj x k o=>by have:=qd4 l (g:=g) rfl (i*7+j) x (by rw[flatV_get us h i j _ m k];exact o);rw[gI,qb4]at this;exact this
 exact⟨a 0 _ od rfl,a 1 _ od rfl,a 2 _ od rfl,a 3 _ od rfl,a 4 _ od rfl,a 5 _ od rfl,a 6 _ od rfl⟩
def WO (B:Nat) (W:cg) (g:Nat) (v:cm) (us:bo) (e:Ending) (w':cg):Prop:=e =.returned (.tuple #[])/\dF B w' v us.reverse/\cq W w' (some g)
def Ih{B:Nat}{W:cg}{g cap:Nat}{us:bo}(ho:dF B W (.o g us.length cap) us)(h7:∀u∈us,∃k n a s aa al ac ta tl tc na nl nc,u=bg k n a s aa al ac ta tl tc na nl nc)(hn:us.length<=20000000) :
 Calls prog 150 #[.o g us.length cap] W (WO B W g (.o g us.length cap) us):=by
 have F:∀u∈us,(nodeCells u).length=7:=λu w=>by obtain⟨k,n,a,s,aa,al,ac,ta,tl,tc,na,nl,nc,rfl⟩:=h7 u w;rfl
 by_cases h0:us.length=0
 .have w:us=[]:=jx h0;subst w;have HP:Hid (WO B W g (.o g ([]:bo).length cap) [] (.returned (.tuple #[])) W):=⟨rfl,ho,bf _ _⟩;clear ho h7 F;simp only[qa0]at HP|-;go_enter func150,ntmps150;go_wp2_with fail;refine wp_loop_rounds 1 ?_;rw[rounds_succ];go_wp2_with fail;refine jb3 (v:=.tuple #[]) UP rfl ?_;exact HP
 .have HO:=jh ho;have H7:=jh h7;have ab:=jh F;have HN:=jh hn;have ah:=jh h0;have⟨N,hN⟩:∃N:Nat,N=us.length:=⟨_,rfl⟩;have t:=jh hN;rw[<-hN];have ak:(N:Int)<=20000000:=by omega
  have aj:(0:Int)<(N:Int):=od
  clear ho h7 F hn h0 hN;go_enter func150,ntmps150;go_wp2_with fail;go_loopw [2,3] (λiv jv wr=>∃(q p:Nat) (vs:bo),iv =.i (q:Nat)/\jv =.i (p:Nat)/\p=N - 1 - q/\zK us q vs/\dF B wr (.o g N cap) vs/\cq W wr (some g)) (λiv _ _=>N - (intOf iv).toNat)
  case atStart=>exact⟨0,N - 1,us,rfl,by go_num,od,⟨rfl,od,λk hk=>by rw[oa]⟩,by have:=HO.out;rw[<-t.out]at this;exact this,bf _ _⟩
  case round =>
   obtain⟨q,p,vs,rfl,rfl,Y,y,x,hG⟩:=hrel;have b:vs.length=N:=y.1.trans t.symm;have E:=y.2.1;rw[<-t.out]at E
   by_cases G:q<p
   .have H:∀u∈vs,∃k n a s aa al ac ta tl tc na nl nc,u=bg k n a s aa al ac ta tl tc na nl nc:=λu w=>H7 u (y.mem u w);have c:∀u∈vs,(nodeCells u).length=7:=λu w=>ab u (y.mem u w);have⟨k1,n1,a1,s1,A,D,C,L,fE,M,I,K,J,e1⟩:=H vs[q] (yv od);have⟨P,Q,O,R,d,jX,f,o,sM,r,h,m,l,e2⟩:=H vs[p] (yv od);have g1:vs[q]?=some (bg k1 n1 a1 s1 A D C L fE M I K J):=by rw[qt od,e1]
    have g2:vs[p]?=some (bg P Q O R d jX f o sM r h m l):=by rw[qt od,e2]
    have CA:=BM x c q g1;have CB:=BM x c p g2;have ae:=λj=>jc0 (by unfold dF at x;rw[b]at x;exact x) j;have d1:(q:Int)<(N:Int):=od
    have d2:(p:Int)<(N:Int):=od
    have d3:(q:Int)<(p:Int):=od
    have⟨HR,U,HG,V,HL,HP,ad,G1,G2⟩:=wq y x hG c b Y G g1 g2;clear y x hG H c b Y G g1 g2 e1 e2 E;go_wp2_with fail;have X:dF B wr (.o g vs.length cap) vs:=by rw[HL.out];exact U
    have⟨o1,y1⟩:=Hr X V q (by rw[HL.out];omega) (.i P) (.i Q) (.i O) (.string R) (.slice d jX f) (.slice o sM r) (.slice h m l);have Z:dF B (L9 wr g (q*7) (.i P) (.i Q) (.i O) (.string R) (.slice d jX f) (.slice o sM r) (.slice h m l)) (.o g (vs.set q (bg P Q O R d jX f o sM r h m l)).length cap) (vs.set q (bg P Q O R d jX f o sM r h m l)):=by rw[je0];exact o1
    have⟨o2,y2⟩:=Hr Z (λu w=>by rcases List.mem_or_eq_of_mem_set w with w|rfl;exact V u w;rfl) p (by rw[je0,HL.out];omega) (.i k1) (.i n1) (.i a1) (.string s1) (.slice A D C) (.slice L fE M) (.slice I K J);have z:=jh o2;have HY:=jh (K6 y1 y2);clear X o1 Z o2 y1 y2
    go_big_region
    unfold L9 at z HY;have S:=jh (kY (K6 HG HY));have T:=jh (qd3 (row:=none) z (kY (bf _ _)) (.inr Of));clear HY z CA CB ae U HG;generalize (World.drew _)=wz at S T|-;go_wp2;go_roundw
    case rel =>
     have Y:=HP.out;have G:=ad.out;have e:us.length=N:=t.out.symm;refine⟨q+1,p - 1,(vs.set q (bg P Q O R d jX f o sM r h m l)).set p (bg k1 n1 a1 s1 A D C L fE M I K J),by go_num,by go_num,od,?_,?_,S⟩
     .have:=HR.out.step (by rw[e];omega) G1 (by rw[e,<-Y];exact G2);rw[e,<-Y]at this;exact this
     .have:=T.out;unfold dF;rw[je0,HL.out]at this;exact this
    case measure=>simp[intOf];omega
   .have d3:¬(q:Int)<(p:Int):=by omega
    have hD:=y.done (by rw[<-t.out];omega);subst hD;have HE:Hid (WO B W g (.o g N cap) us (.returned (.tuple #[])) wr):=⟨rfl,x,hG⟩;clear y x hG b E;go_wp2_with fail;refine jb3 (v:=.tuple #[]) UP rfl ?_;exact HE
def reverse_nil{W:cg}{Q:Ending->cg->Prop}(a:Q (.returned (.tuple #[])) W):Calls prog 150 #[.n0] W Q:=by have b:=jh a;clear a;go_enter func150,ntmps150;go_wp2_with fail;refine wp_loop_rounds 1 ?_;rw[rounds_succ];go_wp2_with fail;refine jb3 (v:=.tuple #[]) UP rfl ?_;exact b
def Cy{O:br}{W:cg}{l:ao}{xv:cm}(h:Src O W l xv)(hn:l.length<=20000000):Calls prog 127 #[xv] W (IV O W l.reverse):=by
 have z:=jh (wB h hn);have A:=jh hn;have⟨I,y,r,J⟩:=h;have m:∃a c,xv =.slice a l.length c:=by
  rcases y with⟨c,e,h,_⟩|⟨C,c,e,_⟩
  .exact⟨none,c,by rw[e,<-r,h]⟩
  .exact⟨some C,c,by rw[e,r]⟩
 obtain⟨a,c,rfl⟩:=m;clear y r J hn;go_enter func127,ntmps127;go_wp2_with ((go_at_call 149;(with_reducible refine z.out.mono ?_);rintro e K ⟨v,w,rfl,hK,t⟩;have f:=jh hK;have s:=jh t;clear t hK));have b:=f.out.own;have d:=f.out.len;rcases b.2 with⟨rfl,h0⟩|⟨g,cap,D,rfl,E,H,F⟩
 .have n:w=[]:=jx h0;subst n;have q:l=[]:=jx (by simpa using d.symm);subst q;go_wp2_with ((go_at_call 150;(with_reducible refine reverse_nil ?_)));go_ret;exact⟨_,_,rfl,f.out,s.out⟩
 .have B:=jh (Ih b (mO d f.out.lies) (by rw[d];exact A.out));have HB:=jh E;clear b H F;go_wp2_with ((go_at_call 150;(with_reducible refine B.out.mono ?_);rintro e L ⟨rfl,j,k⟩;have p:=jh j;have o:=jh (aG s.out k HB.out);clear j k));go_ret;refine⟨_,w.reverse,rfl,⟨by have h:=p.out;rw[d]at h;exact h,by simp[d],λi x u m n=>?_⟩,o.out⟩;have G:i<l.length:=by have:=(qS.1 m).1;simpa using this
  rw[List.getElem?_reverse G]at m;rw[List.getElem?_reverse od,d]at n;exact f.lies _ x u m n
def Y9(w:cg)(a:bj)(n c:Nat):(binOp .eql 23 (.slice a n c) (.n0)).run prog w =.ok (.bool a.isNone) w:=by simp only[binOp];simp[Op.equal,Op.maxDepth,Lib.run_equalIn_slice_nil w 9999 23 25 a n c 0 0 underlying23]
attribute [local go_sem] Y9
def XY (W:cg) (l:aw) (e:Ending) (w':cg):Prop:=∃v us,e =.returned v/\vN (λ_=>True) W w' v l us/\cq W w' none
def Jm{W:cg}{l:aw}{a:bj}{c:Nat}{V:bt}(h:dw (λ_=>True) W l a V)(hn:l.length<=20000000):Calls prog 172 #[.slice a l.length c] W (XY W l):=by
 have⟨m,p,n,s,v,q⟩:=h.Vf c
 cases a with
 | none =>
  have C:l=[]:=by
   cases l with
   | nil=>rfl
   | cons t l=>have⟨b,o,e,_⟩:=h.2.1 0 oe;cases e
  subst C;have A:Hid (XY W [] (.returned (.n0)) W):=⟨_,[],rfl,⟨jd4 _ _ _ _,rfl,λi x u h=>by simp at h⟩,bf _ _⟩;clear h n p q s v;go_enter func172,ntmps172;go_wp2;go_ret;exact A.out
 | some D =>
  have d:=aK (w:=W) (.cells #[] 25);have HB:=jh (xF W (.cells #[] 25));have g:Hid (vN (λ_=>True) W (W.alloc (.cells #[] 25)) (.o (W.heap.size) 0 0) [] []):=⟨⟨rfl,.inr ⟨W.heap.size,0,#[],rfl,jn _,HB.out,jn _,yb _,rfl,rfl⟩⟩,rfl,λi x u h=>by simp at h⟩;have⟨B,r,k⟩:=JT (n.grow d) d q;clear h n q d;go_enter func172,ntmps172;go_wp2_with (at_builtin;refine ed rfl _ _ 23 rfl W.heap.size 25 underlying23 rO rfl ov _ ([]:bo).length (bX []) rfl g.out.own _ l.length (bX m) rfl s B.out v vj (by simp only[qa0];omega) r.out.size ?_;intro z w' y d _;have f:=jh (dX r.out g.out.own (jn _) d.1);have j:=jh (g.out.more (v':=z) (w':=w') (us:=l) (ns:=m) (by unfold OTq;rw[dx,ju,p];exact y) p k.out);clear y d);go_ret;exact⟨_,_,rfl,by simpa using j.out,f.out⟩
def vN.slice{ok:br}{W w:cg}{v:cm}{ts:aw}{vs:bo}(h:vN ok W w v ts vs):∃a c,v =.slice a ts.length c:=by
 rcases h.own.2 with⟨rfl,h0⟩|⟨g,cap,b,rfl,_⟩
 .exact⟨none,0,by rw[<-h.len,h0]⟩
 .exact⟨_,cap,by rw[h.len]⟩
def Dw(t:Int)(a:bj)(l c:Nat)(a':bj)(d b:Nat):∀(us:bo),(∀u∈us,(tyCells u).length=2)->∀i,us[i]?=some (bY t a l c)->bX (us.set i (bY t a' d b))=(bX us).set (i*2+1) (.slice a' d b)
 | [],_,i,h=>by simp at h
 | x::us,e,0,h=>by simp only[km,qq]at h;subst h;rfl
 | x::us,e,i+1,h=>by have g:=e x oe;have j:=Dw t a l c a' d b us (λu f=>e u (by simp[f])) i (by simpa using h);rw[xT,show bX (x::us.set i (bY t a' d b))=tyCells x++bX (us.set i (bY t a' d b)) from rfl,j,show bX (x::us)=tyCells x++bX us from rfl,jf1 _ _ od,g,show (i+1)*2+1 - 2=i*2+1 by omega]
def Sw (W:cg) (l:aw) (e:Ending) (w':cg):Prop:=∃a c V,e =.returned (.slice a l.length c)/\l.length<=c/\dw (W.heap.size <= ·) w' l a V/\cq W w' none
structure Ws (W w:cg) (g cap:Nat) (l:aw) (j:Nat) (us:bo):Prop where
 own:OTq W.heap.size w (.o g l.length cap) us
 len:us.length=l.length
 done:∀(i:Nat) (x:Ty) (u:cm),l[i]?=some x->us[i]?=some u->i<j->aH (λb=>W.heap.size<=b/\b≠g) w x u
 rest:∀(i:Nat) (x:Ty) (u:cm),l[i]?=some x->us[i]?=some u->j<=i->aH (λ_=>True) W x u
 gr:cq W w none
def Jq{W w:cg}{g cap:Nat}{l:aw}{us:bo}(h:Ws W w g cap l l.length us)(hm:l.length<=maxLen):Sw W l (.returned (.o g l.length cap)) w:=by have m:Oz W.heap.size w (.o g l.length cap) l us:=⟨h.own,h.len,λi x u f n=>(h.done i x u f n (qS.1 f).1).ae λb _ d=>⟨d.1,by simp[Value.ownBlock];exact d.2⟩⟩;have⟨a,c,V,e,j,k⟩:=m.done;exact⟨a,c,V,by rw[e],qP h.own e,⟨hm,j,k⟩,h.gr⟩
def copiedT_any:∀(N:Nat) {W:cg}{l:aw}{a:bj}{c:Nat}{V:bt},tysizes l<N->N<=20000000->dw (λ_=>True) W l a V->Calls prog 152 #[.slice a l.length c] W (Sw W l):=λN=>by
 induction N with
 | zero=>intro W l a c V Y;exact absurd Y (Nat.not_lt_zero _)
 | succ N ih =>
  intro W l a c V Y bm h;have bc:l.length<=tysizes l:=pW l;have HC:=jh (Jm (c:=c) h od);have ad:Hid (∀{W:cg} {l:aw} {a:bj} {c:Nat} {V:bt},tysizes l<N->dw (λ_=>True) W l a V->Calls prog 152 #[.slice a l.length c] W (Sw W l)):=λh1 L=>ih h1 od L;have HN:=jh Y;have bq:(l.length:Int)<=20000000:=od
  have ak:Hid (l.length<=maxLen):=h.1;clear h ih Y bc;go_enter func152,ntmps152;go_wp2_with ((go_at_call 172;(with_reducible refine HC.out.mono ?_);rintro e w1 ⟨v,G,rfl,hK,hg⟩;obtain⟨a2,c2,rfl⟩:=hK.slice;have U:=jh hK;have HG:=jh hg;clear hg hK));have d:=U.out.own;have R:=U.out.len;rcases d.2 with⟨K,h0⟩|⟨g,cap,bl,K,p,hq,hc⟩
  .simp only[ye]at K;obtain⟨rfl,z,rfl⟩:=K;clear z;have m:G=[]:=jx h0;subst m;have bb:l=[]:=jx (by simpa using R.symm);subst bb;clear d R h0;simp only[qa0];refine wp_loop_rounds 1 ?_;rw[rounds_succ];go_wp2;go_ret;exact⟨none,0,λ_=>.i 0,rfl,jn _,dw.nil _ _ _ _,HG⟩
  .simp only[ye]at K;obtain⟨rfl,z,rfl⟩:=K;clear z;have HB:=jh p;have ab:Hid (Ws W w1 g c2 l 0 G):=⟨d,R,λi x u _ _ h=>od,λi x u s m _=>U.lies i x u s m,HG⟩;have HL:=jh R;clear d hq hc p R U;go_loopw [8] (λiv wr=>∃(j:Nat) (G:bo),j<=l.length/\iv =.i j/\Ws W wr g c2 l j G) (λiv _=>l.length - (intOf iv).toNat)
   case atStart=>exact⟨0,G,yb _,rfl,ab⟩
   case round =>
    obtain⟨j,vs,hj,rfl,k⟩:=hrel
    by_cases f:j<l.length
    .have C:j<vs.length:=by rw[k.len];exact f
     have A:=k.rest j l[j] vs[j] (qt f) (qt C) (jn _);have n:=yv f;have E:=qt f;generalize l[j]=x at A n E;have⟨t,az⟩:=x;have⟨X,J,Vj,ev,it,B⟩:=A.inv;simp only[Ty.t,Ty.args]at ev it B;have D:vs[j]?=some (bY t X az.length J):=by rw[qt C,ev]
     have L:∀u∈vs,(tyCells u).length=2:=λu m=>by
      obtain⟨i,P,rfl⟩:=qc3 m;have Q:i<l.length:=by rw[<-k.len];exact P
      by_cases aO:i<j
      .have⟨_,_,_,e,_⟩:=(k.done i l[i] vs[i] (qt Q) (qt P) aO).inv;rw[e];rfl
      .have⟨_,_,_,e,_⟩:=(k.rest i l[i] vs[i] (qt Q) (qt P) od).inv;rw[e];rfl
     have d:OTq W.heap.size wr (.o g vs.length c2) vs:=by rw[k.len];exact k.own
     have bn:g<wr.heap.size:=(qb5 d g rfl).2;have cc:wr.cell? ⟨g,j*2+1,none⟩=some (.slice X az.length J):=by have:=qd4 d (g:=g) rfl (j*2+1) (.slice X az.length J) (by rw[flatT_get vs L j 1 _ D od];rfl);rw[gI,qb4]at this;exact this
     have aq:Hid (tysizes az<N):=by have h1:=jS n;have h3:=HN.out;exact (by simp only[Ty.size]at h1;omega:tysizes az<N)
     have H:=jh (ad (c:=J) aq ((B.ae (λ_ _ _=>trivial)).same (sAl k.gr)));have d1:(j:Int)<(l.length:Int):=od
     have d2:(j:Int)<(G.length:Int):=by rw[HL.out];exact d1
     have⟨HI,I,ar,H2,ax,ah⟩:=wg k d D L E it;have Z:Hid (W.heap.size<=g):=HB.out;clear k d D L E it B n A;go_wp2_with ((go_at_call 152;(with_reducible refine H.out.mono ?_);rintro e T ⟨y,F,V3,rfl,O,M,q⟩;have bk:=kNq q cc;have fz:=jc0 (qd3 I.out q (.inr Of)) (j*2+1);have an:=jh M;have aa:=jh O;have w:=jh q;clear M q O H));go_roundw
     case rel =>
      have r:cq T (T.setCell ⟨g,j*2+1,none⟩ (.slice y az.length F)) (some g):=eF (bf _ _) _ _ _;have S:Same (λb=>b≠g) T (T.setCell ⟨g,j*2+1,none⟩ (.slice y az.length F)):=λb o p f=>kd (r.block b f (by simpa using p));have k:=HI.out;have aC:=Z.out;have bh:=qd3 I w (.inr Of);refine⟨j+1,vs.set j (bY t y az.length F),od,by go_num,⟨?_,by simp[k.len],λi x u s m P=>?_,λi x u s m P=>?_,aG (aJ k.gr w) r aC⟩⟩
      .unfold OTq;have:=(bh.stored (j*2+1) (.slice y az.length F)).1;rw[je0,Dw t X az.length J y az.length F vs H2.out j ar.out,<-k.len];exact this
      .by_cases e:i=j
       .subst e;rw[ax.out]at s;simp only[qq]at s;subst s;rw[ja6 C]at m;simp only[qq]at m;subst m;have h3:dw (λb=>W.heap.size<=b/\b≠g) (T.setCell ⟨g,i*2+1,none⟩ (.slice y az.length F)) az y V3:=(an.out.ae (λb _ p=>⟨xo k.gr.size p,od⟩)).same (λb o p f=>S b o p.2 f);exact aH.of ah h3 aa
       .rw[qf2 od]at m;exact ((k.done i x u s m od).same (λb o _ f=>sAl w b o trivial f)).same (λb o p f=>S b o p.2 f)
      .rw[qf2 od]at m;exact k.rest i x u s m od
     case measure=>simp[intOf];omega
    .have ba:j=l.length:=by omega
     subst ba;have d1:¬(l.length:Int)<(l.length:Int):=od
     have HE:=jh (Jq k ak);clear k;go_wp2;go_ret;have h:=HE.out
     first|exact h|(rw[<-HL.out]at h;exact h)
def tH (N:br) (M:Nat->Option ao) (w:cg) (x:Va) (u:cm):Prop:=∃aa ac ta tc na nc VT VN,u=bg x.k x.n x.a x.s aa x.args.length ac ta x.types.length tc na x.code.length nc/\(bD x.k/\bD x.n/\bD x.a/\x.s.size<=maxLen)/\(x.args.length<=ac/\x.args.length<=maxLen/\x.types.length<=tc/\x.code.length<=nc) /\
 dw (λb=>M b=none/\N b) w x.types ta VT/\cK (λb=>M b=none/\N b) w x.code na VN/\((∃VA,aT (λb=>M b=none/\N b) w x.args aa VA)\/∃g,aa=some ⟨g,0,none⟩/\M g=some x.args/\x.args≠[])
def tH.mono{N c:br}{M:Nat->Option ao}{w:cg}{x:Va}{u:cm}(h:tH N M w x u)(a:∀b,N b->c b):tH c M w x u:=by have⟨g,i,r,s,p,q,f,e,o,j,k,n,m,l⟩:=h;exact⟨g,i,r,s,p,q,f,e,o,j,k,n.ae λb _ h=>⟨h.1,a b h.2⟩,m.ae λb _ h=>⟨h.1,a b h.2⟩,l.imp (λ⟨d,h⟩=>⟨d,h.ae λb _ h=>⟨h.1,a b h.2⟩⟩) id⟩
structure jZ (W w:cg) (M:Nat->Option ao) (P:Nat->Nat):Prop where
 rows:∀g xs,M g=some xs->xs≠[]->W.heap.size<=g/\xs.length<=maxLen/\∃us cap,dF W.heap.size w (.o g xs.length cap) us/\us.length=xs.length/\∀(i:Nat) (x:Va) (u:cm),xs[i]?=some x->us[i]?=some u->tH (λb=>P g<=i\/W.heap.size<=b) M w x u/\(P g<=i->aA (λb=>M b=none) w x u)
 gr:cq W w none
 lt:∀g xs,M g=some xs->g<w.heap.size
def Et{x:Va} : ∀{l:ao},x∈l->x.size<=vsizes l
 | y::l,h=>by
  simp only[vsizes];rcases ke.1 h with rfl|h
  .omega
  .have:=Et h;omega
def Dn (M:Nat->Option ao) (P:Nat->Nat) (X:br):Prop:=∀g xs,M g=some xs->xs≠[]->X g\/xs.length<=P g
def Kj{W w:cg}{M:Nat->Option ao}{P:Nat->Nat}(hR:jZ W w M P)(hD:Dn M P λ_=>False):∀(N:Nat) (x:Va) (u:cm),x.size<=N->tH (W.heap.size <= ·) M w x u->aA (W.heap.size <= ·) w x u:=λN=>by
 induction N with
 | zero=>intro x u hx;have:=eP x;omega
 | succ N ih =>
  intro x u hx ⟨aa,ac,ta,tc,na,nc,VT,VN,hu,h1,h2,hT,hN,hA⟩;have key:∃VA,aT (W.heap.size <= ·) w x.args aa VA:=by
   rcases hA with⟨VA,h⟩|⟨g,rfl,hg,hB⟩
   .exact⟨VA,h.ae λb _ h=>h.2⟩
   .have⟨hW,hm,us,cap,ho,hl,he⟩:=hR.rows g x.args hg hB;have⟨a,c,V,e,_,h⟩:=uG (ok:=(W.heap.size <= ·)) ho hl (λi y v hy hv=>ih y v (by
     have h3:=Et (jz hy);have⟨k,n,a,s,args,types,code⟩:=x;simp only[Va.size,Va.args]at hx h3;omega) ((he i y v hy hv).1.mono λb hb=>by
     rcases hb with hb|hb
     .have:=(hD g _ hg hB).resolve_left id;have:=(qS.1 hy).1;omega
     .exact hb)) (λb e=>by simp only[Value.ownBlock,qq]at e;subst e;exact hW) hm
    simp only[ye]at e;obtain⟨rfl,_⟩:=e;exact⟨V,h⟩
  have⟨VA,hV⟩:=key;rw[hu];have⟨k,n,a,s,args,types,code⟩:=x;exact aA.mk (hnk:=⟨h2.2.2.2,h2.2.2.1⟩) VA VT VN hV.1 h2.1 h1.2.2.2 h1.1 h1.2.1 h1.2.2.1 (hT.ae λb _ h=>h.2) (hN.ae λb _ h=>h.2) hV.2.1 hV.2.2
def tH.of{N:br}{M:Nat->Option ao}{w:cg}{x:Va}{u:cm}(h:aA (λb=>M b=none) w x u)(c:∀b,N b):tH N M w x u:=by
 cases h with
 | mk V g f e d m p n o j i k l =>
  rename_i a;exact⟨_,_,_,_,_,_,g,f,rfl,⟨p,n,o,m⟩,⟨d,e,a.2,a.1⟩,j.ae λb _ h=>⟨h,c b⟩,i.ae λb _ h=>⟨h,c b⟩,.inl ⟨V,(show aT (λb=>M b=none) w _ _ V from ⟨e,k,l⟩).ae λb _ h=>⟨h,c b⟩⟩⟩
def tH.move{N:br}{M c:Nat->Option ao}{w w':cg}{x:Va}{u:cm}(h:tH N M w x u)(t:∀b,b<w.heap.size->M b=none->c b=none)(d:∀g xs,M g=some xs->c g=some xs)(A:∀b o,M b=none->b<w.heap.size->w'.cell? ⟨b,o,none⟩=w.cell? ⟨b,o,none⟩):tH N c w' x u:=by
 have⟨n,ac,E,F,C,D,m,l,B,p,q,y,v,r⟩:=h;have a:Same (λb=>M b=none/\c b=none/\N b) w w':=λb o f i=>A b o f.1 i;have j:∀b,b<w.heap.size->M b=none/\N b->M b=none/\c b=none/\N b:=λb f h=>⟨h.1,t b f h.1,h.2⟩;refine⟨n,ac,E,F,C,D,m,l,B,p,q,((y.ae j).same a).ae (λ_ _ h=>h.2),((v.ae j).same a).ae (λ_ _ h=>h.2),?_⟩;rcases r with⟨k,h⟩|⟨g,e,z,s⟩
 .exact .inl ⟨k,((h.ae j).same a).ae (λ_ _ h=>h.2)⟩
 .exact .inr ⟨g,e,d _ _ z,s⟩
def nU{M a:Nat->Option ao}{w w':cg}{x:Va}{u:cm}(h:aA (λb=>M b=none) w x u)(e:∀b,b<w.heap.size->M b=none->a b=none)(f:∀b o,M b=none->b<w.heap.size->w'.cell? ⟨b,o,none⟩=w.cell? ⟨b,o,none⟩):aA (λb=>a b=none) w' x u :=
 ((h.ae (ok':=λb=>M b=none/\a b=none) λb c h=>⟨h,e b c h⟩).same (λb o c d=>f b o c.1 d)).ae (λ_ _ h=>h.2)
def jZ.Qu{W w w':cg}{M:Nat->Option ao}{P:Nat->Nat}{t:Option Nat}(h:jZ W w M P)(a:cq w w' t)(d:∀b,t=some b->M b=some []/\W.heap.size<=b):jZ W w' M P :=
 ⟨λg f e j=>by
  have⟨r,s,A,cap,z,y,l⟩:=h.rows g f e j;have m:∀b o,M b=none->b<w.heap.size->w'.cell? ⟨b,o,none⟩=w.cell? ⟨b,o,none⟩:=λb o k c=>kd (a.block b c (λe=>by rw[(d b e.symm).1]at k;cases k));exact⟨r,s,A,cap,qd3 z a (.inr (λq=>by rw[(d g q.symm).1]at e;cases e;exact j rfl)),y,λi x u p n=>⟨(l i x u p n).1.move (λ_ _ h=>h) (λ_ _ h=>h) m,λv=>nU ((l i x u p n).2 v) (λ_ _ h=>h) m⟩⟩,by
  cases t with
  | none=>exact aJ h.gr a
  | some b=>exact aG h.gr a (d b rfl).2,λg f e=>kh (h.lt g f e) a.size⟩
def jZ.grow{W w w':cg}{M:Nat->Option ao}{P:Nat->Nat}(h:jZ W w M P)(a:cq w w' none):jZ W w' M P:=h.Qu a (λ_ e=>by cases e)
def jZ.aside{W w:cg}{M:Nat->Option ao}{P:Nat->Nat}{v:cg}{t:Nat}{o:Option Nat}(h:jZ W v M P)(c:cq v w o)(n:∀b,o=some b->M b=some []/\W.heap.size<=b)(p:v.heap.size<=t)(f:t<w.heap.size):jZ W w (λb=>if b=t then some []else M b) P:=by
 have q:∀b,b<v.heap.size->M b=none->(if b=t then some []else M b)=none:=λb l e=>by rw[oa];exact e
 have k:∀b a,M b=some a->(if b=t then some []else M b)=some a:=λb a e=>by rw[if_neg (by have:=h.lt b a e;omega)];exact e
 have s:∀b o,M b=none->b<v.heap.size->w.cell? ⟨b,o,none⟩=v.cell? ⟨b,o,none⟩:=λb o l m=>kd (c.block b m (λe=>by rw[(n b e.symm).1]at l;cases l));refine⟨λg a e j=>?_,(h.Qu c n).gr,λg a e=>?_⟩
 .split at e
  .cases e;exact absurd rfl j
  .have⟨p,f,vs,A,D,C,r⟩:=h.rows g a e j;exact⟨p,f,vs,A,qd3 D c (.inr (λd=>by rw[(n g d.symm).1]at e;cases e;exact j rfl)),C,λi x u z y=>⟨(r i x u z y).1.move q k s,λB=>nU ((r i x u z y).2 B) q s⟩⟩
 .split at e
  .rename_i d;rw[d];exact f
  .exact kh (h.lt g a e) c.size
def jZ.add{W w w':cg}{M:Nat->Option ao}{P:Nat->Nat}{l:ao}{g cap:Nat}{us:bo}(h:jZ W w M P)(hK:nI (λb=>M b≠none) w w' (.o g l.length cap) l us)(n:cq w w' none)(hm:l.length<=maxLen) :
 jZ W w' (λb=>if b=g then some l else M b) (λb=>if b=g then 0 else P b):=by
 have A:=(qb5 hK.own g rfl).1;have y:∀b,b<w.heap.size->M b=none->(if b=g then some l else M b)=none:=λb m e=>by rw[oa];exact e
 have z:∀b a,M b=some a->(if b=g then some l else M b)=some a:=λb a e=>by rw[if_neg (by have:=h.lt b a e;omega)];exact e
 have C:∀b o,M b=none->b<w.heap.size->w'.cell? ⟨b,o,none⟩=w.cell? ⟨b,o,none⟩:=λb o _ B=>kd (n.block b B oe);refine⟨λj a e F=>?_,aJ h.gr n,λj a e=>(by split at e;rename_i t;rw[t];exact (qb5 hK.own g rfl).2;exact kh (h.lt j a e) n.size)⟩;split at e
 .rename_i t;cases e;subst t;have k:∀(i:Nat) (x:Va) (u:cm),l[i]?=some x->us[i]?=some u->aA (λb=>(if b=j then some l else M b)=none) w' x u:=λi x u d c=>nU ((hK.lies i x u d c).ae (ok':=λb=>M b=none) λb _ m=>by simpa using m) y C;refine⟨xo h.gr.size A,hm,us,cap,?_,hK.len,λi x u d c=>⟨tH.of (k i x u d c) (λb=>.inl oe),λ_=>k i x u d c⟩⟩;have⟨v,E⟩:=hK.own;refine⟨v,E.imp id ?_⟩;rintro⟨q,p,s,e,m,r⟩;exact⟨q,p,s,e,xo h.gr.size m,r⟩
 .rename_i f;have⟨k,v,vs,p,I,H,D⟩:=h.rows j a e F;refine⟨k,v,vs,p,qd3 I n (.inr Of),H,λi x u d c=>⟨by have h:=(D i x u d c).1.move y z C;simpa[f]using h,λG=>nU ((D i x u d c).2 (by simpa[f]using G)) y C⟩⟩
def Dx(k n a:Int)(s:bp)(r:bj)(al t:Nat)(ta:bj)(tl tc:Nat)(na:bj)(v nc:Nat)(b:bj)(f d:Nat)(o:bj)(jJ p:Nat)(g:bj)(m j:Nat):∀(us:bo),(∀u∈us,(nodeCells u).length=7)->∀i,us[i]?=some (bg k n a s r al t ta tl tc na v nc) ->
 flat (us.set i (bg k n a s b f d o jJ p g m j))=(((flat us).set (i*7+4) (.slice b f d)).set (i*7+5) (.slice o jJ p)).set (i*7+6) (.slice g m j)
 | [],_,i,h=>by simp at h
 | x::us,q,0,h=>by simp only[km,qq]at h;subst h;rfl
 | x::us,q,i+1,h=>by
  have y:=q x oe;have z:=Dx k n a s r al t ta tl tc na v nc b f d o jJ p g m j us (λu w=>q u (by simp[w])) i (by simpa using h);have e:∀(l:bo) (k:Nat) (c:cm),(nodeCells x++l).set ((i+1)*7+k) c=nodeCells x++l.set (i*7+k) c:=λl k c=>by rw[jf1 _ _ od,y,show (i+1)*7+k - 7=i*7+k by omega]
  rw[xT,show flat (x::us.set i (bg k n a s b f d o jJ p g m j))=nodeCells x++flat (us.set i (bg k n a s b f d o jJ p g m j)) from rfl,z,show flat (x::us)=nodeCells x++flat us from rfl,e,e,e]
def Wrote (B:Nat) (w wx:cg) (g i n:Nat) (x y z:cm):Prop:=cq w wx (some g)/\∀us cap,dF B w (.o g n cap) us->us.length=n->wx.ownsRow B 29 7 (.o g n cap) n ((((flat us).set (i*7+4) x).set (i*7+5) y).set (i*7+6) z)
def jZ.put{W w z:cg}{M:Nat->Option ao}{P:Nat->Nat}{g i:Nat}{xs:ao}{x:Va}{A ta na:bj}{ac tc nc:Nat}{VT VN:bt}(h:jZ W w M P)(I:M g=some xs)(hP:P g=i)(v:xs[i]?=some x)(hc:x.args.length<=ac/\x.types.length<=tc/\x.code.length<=nc)
 (hT:dw (λb=>M b=none/\W.heap.size<=b) z x.types ta VT) (hN:cK (λb=>M b=none/\W.heap.size<=b) z x.code na VN) (hw3:Wrote W.heap.size w z g i xs.length (.slice A x.args.length ac) (.slice ta x.types.length tc) (.slice na x.code.length nc)) (q:x.args=[]\/∃d,A=some ⟨d,0,none⟩/\M d=some x.args) :
 jZ W z M (λb=>if b=g then i+1 else P b):=by
 have⟨g1,g2,l,cap,S,E,D⟩:=h.rows g xs I (λe=>by rw[e]at v;simp at v);have f:=hw3.1;have F:∀b o,M b=none->b<w.heap.size->z.cell? ⟨b,o,none⟩=w.cell? ⟨b,o,none⟩:=λb o C K=>kd (f.block b K (λe=>by cases e;rw[I]at C;cases C));have B:∀b,b<w.heap.size->M b=none->M b=none:=λ_ _ h=>h;have r:∀b p,M b=some p->M b=some p:=λ_ _ h=>h;have J:i<l.length:=by rw[E];exact (qS.1 v).1
 have h7:∀u∈l,(nodeCells u).length=7:=λu c=>by obtain⟨k,hk,rfl⟩:=qc3 c;have⟨_,_,_,_,_,_,_,_,e,_⟩:=(D k xs[k] l[k] (qt od) (qt hk)).1;rw[e];rfl
 have⟨G,H,Q,R,N,O,V,U,Z,k1,k2,_⟩:=(D i x l[i] v (qt J)).1;have L:l[i]?=some (bg x.k x.n x.a x.s G x.args.length H Q x.types.length R N x.code.length O):=by rw[qt J,Z]
 refine⟨λd p e hB=>?_,aG h.gr f g1,λd p e=>kh (h.lt d p e) f.size⟩
 by_cases j:d=g
 .subst j;rw[I]at e;cases e;refine⟨g1,g2,l.set i (bg x.k x.n x.a x.s A x.args.length ac ta x.types.length tc na x.code.length nc),cap,?_,by simp[E],λk y u m c=>?_⟩
  .unfold dF at S|-;rw[je0,Dx _ _ _ _ _ _ _ _ _ _ _ _ _ _ _ _ _ _ _ _ _ _ l h7 i L,E];exact hw3.2 l cap S E
  .by_cases Y:k=i
   .subst Y;rw[v]at m;cases m;rw[ja6 J]at c;cases c;refine⟨⟨A,ac,ta,tc,na,nc,VT,VN,rfl,k1,⟨hc.1,k2.2.1,hc.2.1,hc.2.2⟩,hT.ae λb _ h=>⟨h.1,.inr h.2⟩,hN.ae λb _ h=>⟨h.1,.inr h.2⟩,?_⟩,λt=>?_⟩
    .by_cases h0:x.args=[]
     .exact .inl ⟨λ_=>.i 0,by rw[h0];exact aT.nil _ _ _ _⟩
     rcases q with q|⟨d,q,hA2⟩
     .exact .inl ⟨λ_=>.i 0,by rw[q];exact aT.nil _ _ _ _⟩
     .exact .inr ⟨d,q,hA2,h0⟩
    .simp at t;omega
   .rw[qf2 od]at c;exact⟨((D k y u m c).1.move B r F).mono (λb C=>C.imp (λh=>ot) id),λt=>nU ((D k y u m c).2 (by simp at t;omega)) B F⟩
 .have⟨q1,q2,vs,X,qo,ql,T⟩:=h.rows d p e hB;exact⟨q1,q2,vs,X,qd3 qo f (.inr (by simp[Value.ownBlock];exact j)),ql,λk y u m c=>⟨by have h:=(T k y u m c).1.move B r F;simpa[j]using h,λt=>nU ((T k y u m c).2 (by simpa[j]using t)) B F⟩⟩
def jZ.none(ok:br)[DecidablePred ok](W:cg):jZ W W (λb=>if ok b\/W.heap.size<=b then Option.none else some []) (λ_=>0):=⟨λg c e a=>(by split at e;cases e;cases e;exact absurd rfl a),bf _ _,λg c e=>(by split at e;cases e;omega)⟩
def Qw:(prog.info? 26).map (λi=>(i.zero,i.size,i.bytes))=some (some (.n0),1,24):=oA
def tsz:List (Nat×ao)->Nat
 | []=>0
 | (_,xs)::l=>vsizes xs+1+tsz l
def Cw(g:Nat)(xs:ao):∀l,tsz (l++[(g,xs)])=tsz l+(vsizes xs+1)
 | []=>by simp[tsz]
 | (_,a)::l=>by simp only[qe0,tsz,Cw g xs l];omega
def len_tsz:∀l,l.length<=tsz l
 | []=>yb _
 | (_,a)::l=>by have:=len_tsz l;simp only[jj,tsz];omega
def YN (M:Nat->Option ao) (P:Nat->Nat) (g:Nat) (xs:ao) (j:Nat) (a:bj):Prop:=xs=[]\/a=some ⟨g,0,none⟩/\M g=some xs/\P g=j
structure nK (W w:cg) (M:Nat->Option ao) (P:Nat->Nat) (tb cap:Nat) (vs:bo) (ts:List (Nat×ao)):Prop where
 ren:jZ W w M P
 own:w.ownsRow W.heap.size 26 1 (.o tb ts.length cap) ts.length vs
 OT:∀(i g:Nat) (xs:ao),ts[i]?=some (g,xs)->∃a c,vs[i]?=some (Value.slice a xs.length c)/\YN M P g xs 0 a
 nd:(ts.map Prod.fst).Nodup
 blk:M tb=some []
 XV:∀g∈ts.map Prod.fst,g<w.heap.size
section
variable {W w w':cg}{M:Nat->Option ao}{P:Nat->Nat}{tb cap:Nat}{vs:bo}{ts:List (Nat×ao)}
def nK.grow(h:nK W w M P tb cap vs ts)(a:cq w w' none):nK W w' M P tb cap vs ts :=
 ⟨h.ren.grow a,qd3 h.own a (.inr Of),h.OT,h.nd,h.blk,λg b=>kh (h.XV g b) a.size⟩
def nK.low(h:nK W w M P tb cap vs ts):W.heap.size<=tb:=(qb5 h.own tb rfl).1
def nK.pop{g:Nat}{xs:ao}(h:nK W w M P tb cap vs (ts++[(g,xs)])):∃j a c,nK W w M P tb cap j ts/\w.cell? ⟨tb,ts.length,none⟩=some (.slice a xs.length c)/\YN M P g xs 0 a/\g ∉ ts.map Prod.fst:=by
 have n:=h.own.1;simp at n;have⟨a,c,e,u⟩:=h.OT ts.length g xs oe;have v:vs=vs.take ts.length++[.slice a xs.length c]:=by have k:=qg0 (l:=vs) (i:=ts.length) od;rw[<-n,je7]at k;rw[qt od]at e;simp only[qq]at e;rw[<-e];exact k
 have o:=h.own;rw[v,ju]at o;have f:=h.nd;rw[ux,qd5]at f;refine⟨vs.take ts.length,a,c,⟨h.ren,Av o,λi s x m=>?_,f.1,h.blk,λg d=>h.XV g (by rw[ux];exact jb7 _ d)⟩,?_,u,λd=>f.2.2 _ d g oe rfl⟩
 .have b:=(qS.1 m).1;have⟨p,q,r,t⟩:=h.OT i s x (by rw[kO b];exact m);exact⟨p,q,by rw[List.getElem?_take_of_lt b];exact r,t⟩
 .have:=qd4 h.own (g:=tb) rfl ts.length _ e;rw[gI,qb4]at this;exact this
def nK.add{l:ao}{g c:Nat}{us:bo}(h:nK W w M P tb cap vs ts)(hK:nI (λb=>M b≠none) w w' (.o g l.length c) l us)(d:cq w w' none)(hm:l.length<=maxLen) :
 nK W w' (λb=>if b=g then some l else M b) (λb=>if b=g then 0 else P b) tb cap vs ts:=by
 have p:=(qb5 hK.own g rfl).1;refine⟨h.ren.add hK d hm,qd3 h.own d (.inr Of),λi f k q=>?_,h.nd,?_,λg hm=>kh (h.XV g hm) d.size⟩
 .have⟨a,c,e,o⟩:=h.OT i f k q;refine⟨a,c,e,o.imp id λ⟨m,j,n⟩=>?_⟩;have:=h.ren.lt f k j;exact⟨m,by dsimp only;rw[oa];exact j,by dsimp only;rw[oa];exact n⟩
 .have:=h.ren.lt tb _ h.blk;show (if tb=g then _ else _)=_;rw[oa];exact h.blk
def nK.put{f:cg}{g i:Nat}{xs:ao}{x:Va}{l ta na:bj}{m tc nc:Nat}{VT VN:bt}(h:nK W w M P tb cap vs ts)(j:M g=some xs)(t:P g=i)(o:xs[i]?=some x)(hc:x.args.length<=m/\x.types.length<=tc/\x.code.length<=nc)
 (hT:dw (λb=>M b=none/\W.heap.size<=b) f x.types ta VT) (hN:cK (λb=>M b=none/\W.heap.size<=b) f x.code na VN) (hw:Wrote W.heap.size w f g i xs.length (.slice l x.args.length m) (.slice ta x.types.length tc) (.slice na x.code.length nc)) (hA:x.args=[]\/∃d,l=some ⟨d,0,none⟩/\M d=some x.args) (hn:g ∉ ts.map Prod.fst) :
 nK W f M (λb=>if b=g then i+1 else P b) tb cap vs ts:=by
 refine⟨h.ren.put j t o hc hT hN hw hA,qd3 h.own hw.1 (.inr (λe=>?_)),λk d v n=>?_,h.nd,h.blk,λg u=>kh (h.XV g u) hw.1.size⟩
 .simp only[Value.ownBlock,qq]at e;subst e;rw[h.blk]at j;cases j;simp at o
 .have⟨a,c,e,s⟩:=h.OT k d v n;refine⟨a,c,e,s.imp id λ⟨p,q,r⟩=>⟨p,q,?_⟩⟩;dsimp only;rw[if_neg (λe=>hn (by rw[<-e];exact kl.2 ⟨_,jz n,rfl⟩))];exact r
def nK.push{g c:Nat}{xs:ao}{v':cm}(h:nK W w M P tb cap vs ts)(B:M g=some xs)(I:P g=0)(hn:g ∉ ts.map Prod.fst)
 (ho:w'.ownsRow W.heap.size 26 1 v' (ts.length+1) (vs++[.o g xs.length c])) (hg:Gr w (.o tb ts.length cap) w' v') :
 ∃o f d,v' =.o f (ts.length+1) d/\nK W w' o P f d (vs++[.o g xs.length c]) (ts++[(g,xs)])/\(∀b l,M b=some l->o b=some l)/\∀b l,o b=some l->l≠[]->M b=some l:=by
 have x:=h.own.1;simp at x;have⟨f,d,e⟩:∃f d,v' =.o f (ts.length+1) d:=by
  rcases ho.2 with⟨_,h0⟩|⟨j,K,E,e,_⟩
  .omega
  .exact⟨_,_,e⟩
 subst e;have k:∀o:Nat->Option ao,(∀b l,M b=some l->o b=some l)->∀(i j:Nat) (v:ao),(ts++[(g,xs)])[i]?=some (j,v)->∃a y,(vs++[Value.o g xs.length c])[i]?=some (Value.slice a v.length y)/\YN o P j v 0 a:=λo q i j v s=>by
  by_cases A:i<ts.length
  .rw[kO A]at s;have⟨a,y,e,H⟩:=h.OT i j v s;exact⟨a,y,by rw[kO od];exact e,H.imp id λ⟨F,z,G⟩=>⟨F,q _ _ z,G⟩⟩
  .have t:=(qS.1 s).1;simp at t;obtain rfl:i=ts.length:=by omega
   simp at s;obtain⟨rfl,rfl⟩:=s;exact⟨_,c,by rw[<-x];simp,.inr ⟨rfl,q _ _ B,I⟩⟩
 have u:((ts++[(g,xs)]).map Prod.fst).Nodup:=by rw[ux,qd5];refine⟨h.nd,oe,λa J b C e=>?_⟩;simp at C;subst C;exact hn (e ▸ J)
 have n:w'.ownsRow W.heap.size 26 1 (.o f (ts++[(g,xs)]).length d) (ts++[(g,xs)]).length (vs++[.o g xs.length c]):=by rw[ju];exact ho
 have D:∀b,(Value.o tb ts.length cap).ownBlock=some b->M b=some []/\W.heap.size<=b:=λb e=>by simp only[Value.ownBlock,qq]at e;subst e;exact⟨h.blk,h.low⟩
 have m:∀j∈(ts++[(g,xs)]).map Prod.fst,j<w'.heap.size:=λj p=>by
  rw[ux,ka]at p;rcases p with p|p
  .exact kh (h.XV j p) hg.1.size
  .simp at p;subst p;exact kh (h.ren.lt _ _ B) hg.1.size
 rcases hg.2 with e|⟨g2,e,z⟩
 .simp only[Value.ownBlock,qq]at e;subst e;exact⟨M,_,d,rfl,⟨h.ren.Qu hg.1 D,n,k M (λ_ _ h=>h),u,h.blk,m⟩,λ_ _ h=>h,λ_ _ h _=>h⟩
 .simp only[Value.ownBlock,qq]at e;subst e;have r:∀b l,M b=some l->(if b=f then some []else M b)=some l:=λb l e=>by rw[if_neg (by have:=h.ren.lt b l e;omega)];exact e
  exact⟨λb=>if b=f then some []else M b,f,d,rfl,⟨h.ren.aside hg.1 D z (World.ownsRow.lt ho f rfl).2,n,k _ r,u,if_pos rfl,m⟩,r,λb l e x=>by dsimp only at e;split at e;cases e;exact absurd rfl x;exact e⟩
def Fin (l:ao) (a0:bj) (M:Nat->Option ao):Prop:=l=[]\/∃g,a0=some ⟨g,0,none⟩/\M g=some l
def Fin.mono{l:ao}{c:bj}{a:Nat->Option ao}(h:Fin l c M)(f:∀b l,M b=some l->a b=some l):Fin l c a:=h.imp id λ⟨g,d,e⟩=>⟨g,d,f _ _ e⟩
def nI.slice{O:br}{v:cm}{l:ao}{us:bo}(h:nI O W w v l us):∃a c,v =.slice a l.length c/\l.length<=c:=by
 rcases h.own.2 with⟨rfl,h0⟩|⟨g,cap,b,rfl,_,_,d,_⟩
 .exact⟨none,0,by rw[<-h.len,h0],by rw[<-h.len,h0];exact jn _⟩
 .exact⟨_,cap,by rw[h.len],by rw[<-h.len];exact d⟩
def nI.some{O:br}{a:bj}{c:Nat}{l:ao}{us:bo}(h:nI O W w (.slice a l.length c) l us)(d:l≠[]):∃g,a =.some ⟨g,0,none⟩:=by
 rcases h.own.2 with⟨e,h0⟩|⟨g,cap,b,e,_⟩
 .exact absurd (jx (by rw[<-h.len,h0])) d
 .simp only[ye]at e;exact⟨g,e.1⟩
def KH{l:ao}{c:bj}{d:Nat}{us:bo}(x:Dn M P λ_=>False)(R:jZ W W M P)(hK:nI (λb=>M b≠none) W w (.slice c l.length d) l us)(p:cq W w none)(hm:l.length<=maxLen) :
 ∃o s g,nK W (w.alloc (.cells #[.slice c l.length d] 26)) o s w.heap.size 1 [.slice c l.length d] [(g,l)]/\Fin l c o/\Dn o s (λq=>q=g/\l≠[]):=by
 have v:=xF w (.cells #[.slice c l.length d] 26);have j:=aK (w:=w) (.cells #[.slice c l.length d] 26);have f:w.heap.size<(w.alloc (.cells #[.slice c l.length d] 26)).heap.size:=(kj.1 v).1;have h:(w.alloc (.cells #[.slice c l.length d] 26)).ownsRow W.heap.size 26 1 (.o (w.heap.size) 1 1) 1 [.slice c l.length d] :=
  ⟨rfl,.inr ⟨w.heap.size,1,_,rfl,p.size,v,jn _,XS,rfl,rfl⟩⟩
 by_cases n:l=[]
 .exact⟨_,_,w.heap.size,⟨(R.grow p).aside j (λ_ e=>by cases e) (jn _) f,h,λi u m a=>by
   match i,a with
   | 0,a =>
    simp only[km,qq,js]at a;obtain⟨rfl,rfl⟩:=a;exact⟨c,d,rfl,.inl n⟩
   | i+1,a=>simp at a,oe,if_pos rfl,λg hm=>by simp at hm;subst hm;exact f⟩,.inl n,λb m e k=>by dsimp only at e;split at e;cases e;exact absurd rfl k;exact .inr ((x b m e k).resolve_left id)⟩
 .obtain⟨g,rfl⟩:=hK.some n;have t:=R.add hK p hm;have r:=t.lt g l (if_pos rfl);refine⟨_,_,g,⟨t.aside j (λ_ e=>by cases e) (jn _) f,h,λi u m a=>?_,oe,if_pos rfl,λu hm=>by simp at hm;subst hm;exact Nat.lt_trans r f⟩,.inr ⟨g,rfl,?_⟩,?_⟩
  .match i,a with
   | 0,a =>
    simp only[km,qq,js]at a;obtain⟨rfl,rfl⟩:=a;exact⟨_,d,rfl,.inr ⟨rfl,by dsimp only;rw[oa,if_pos rfl],by dsimp only;rw[if_pos rfl]⟩⟩
   | i+1,a=>simp at a
  .dsimp only;rw[oa,if_pos rfl]
  .intro b m e k;dsimp only at e|-;split at e
   .cases e;exact absurd rfl k
   .by_cases y:b=g
    .exact .inl ⟨y,n⟩
    .rw[if_neg y]at e|-;exact .inr ((x b m e k).resolve_left id)
def Oe{l:ao}{k:bj}(R:jZ W w M P)(m:Dn M P λ_=>False)(hF:Fin l k M):∃V,aT (W.heap.size <= ·) w l k V:=by
 by_cases f:l=[]
 .exact⟨λ_=>.i 0,by rw[f];exact aT.nil _ _ _ _⟩
 .rcases hF with h|⟨g,rfl,n⟩
  .exact absurd h f
  .have⟨hW,q,u,cap,r,j,p⟩:=R.rows g l n f;have t:=(m g l n f).resolve_left id;have⟨a,c,V,e,_,h⟩:=uG (ok:=(W.heap.size <= ·)) r j (λi y v o s=>Kj R m _ y v (jn _) ((p i y v o s).1.mono λb d=>by
    rcases d with d|d
    .have:=(qS.1 o).1;omega
    .exact d)) (λb e=>by simp only[Value.ownBlock,qq]at e;subst e;exact hW) q
   simp only[ye]at e;obtain⟨rfl,_⟩:=e;exact⟨V,h⟩
def Put (W:cg) (M:Nat->Option ao) (P:Nat->Nat) (tb cap:Nat) (vs:bo) (ts:List (Nat×ao)) (g j:Nat) (x:Va) (wx:cg):Prop:=∃M' P' aa ac,nK W wx M' P' tb cap vs ts/\(∀b l,M b=some l->M' b=some l)/\P' g=j+1/\wx.cell? ⟨g,j*7+4,none⟩=some (.slice aa x.args.length ac)/\(x.args=[]\/∃g',aa=some ⟨g',0,none⟩/\M' g'=some x.args/\P' g'=0/\g' ∉ ts.map Prod.fst/\g'≠g)/\∀X,Dn M P X->Dn M' P' λq=>X q\/x.args≠[]/\aa=some ⟨q,0,none⟩
def UK{g j q r c1:Nat}{xs:ao}{x:Va}{F k p:cg}{us:bo}{n G H:bj}{N O:bt}(h:nK W F M P tb cap vs ts)(y:M g=some xs)(I:P g=j)(v:xs[j]?=some x)(hn:g ∉ ts.map Prod.fst)(hm:x.args.length<=maxLen)
 (hK:nI (λb=>M b≠none) F k (.slice n x.args.length c1) x.args us) (g1:cq F k none) (hc:x.args.length<=c1/\x.types.length<=q/\x.code.length<=r) (hT:dw (k.heap.size <= ·) p x.types G N) (hN:cK (k.heap.size <= ·) p x.code H O)
 (hw:Wrote W.heap.size k p g j xs.length (.slice n x.args.length c1) (.slice G x.types.length q) (.slice H x.code.length r)) :
 Put W M P tb cap vs ts g j x p:=by
 have V:=h.ren.lt g xs y;have L:=g1.size;have B:xs≠[]:=λe=>by rw[e]at v;simp at v
 have t:∀(f:Nat->Option ao) (u:Nat->Nat),nK W k f u tb cap vs ts->f g=some xs->u g=j->(x.args=[]\/∃d,n=some ⟨d,0,none⟩/\f d=some x.args)->nK W p f (λb=>if b=g then j+1 else u b) tb cap vs ts/\p.cell? ⟨g,j*7+4,none⟩=some (.slice n x.args.length c1):=λf u T s z R=>by
  have J:∀b,k.heap.size<=b->f b=none:=λb c=>by
   cases e:f b with
   | none=>rfl
   | some l=>have:=T.ren.lt b l e;omega
  refine⟨T.put s z v hc (hT.ae λb _ c=>⟨J b c,xo (xo h.ren.gr.size L) c⟩) (hN.ae λb _ c=>⟨J b c,xo (xo h.ren.gr.size L) c⟩) hw R hn,?_⟩;have⟨_,_,E,Q,K,o,_⟩:=T.ren.rows g xs s B;have Y:=(qS.1 v).1;have S:=K.1;have:=qd4 (hw.2 E Q K o) (g:=g) rfl (j*7+4) (.slice n x.args.length c1) (by rw[qf2 od,qf2 od,ja6 od])
  rw[gI,qb4]at this;exact this
 by_cases o:x.args=[]
 .have⟨C,D⟩:=t M P (h.grow g1) y I (.inl o);refine⟨M,_,n,c1,C,λ_ _ h=>h,if_pos rfl,D,.inl o,λX A b m e a=>?_⟩;rcases A b m e a with i|i
  .exact .inl (.inl i)
  .refine .inr ?_;dsimp only;split
   .rename_i w;subst w;omega
   .exact i
 .obtain⟨d,rfl⟩:=hK.some o;have U:=(qb5 hK.own d rfl).1;have⟨C,D⟩:=t _ _ (h.add hK g1 hm) (by rw[oa];exact y) (by rw[oa];exact I) (.inr ⟨d,rfl,if_pos rfl⟩);refine⟨_,_,_,c1,C,λb l e=>by have:=h.ren.lt b l e;rw[oa];exact e,if_pos rfl,D,.inr ⟨d,rfl,if_pos rfl,by rw[oa,if_pos rfl],λhm=>by have:=h.XV d hm;omega,od⟩,λX A b m e a=>?_⟩
  by_cases c:b=d
  .exact .inl (.inr ⟨o,by rw[c]⟩)
  .dsimp only at e|-;rw[if_neg c]at e|-;rcases A b m e a with i|i
   .exact .inl (.inl i)
   .refine .inr ?_;split
    .rename_i w;subst w;omega
    .exact i
end
def xK{l:Array Bool}{i j:Nat}{d:Bool}(h:i≠j):(l.setIfInBounds j true).getD i d=l.getD i d:=by simp only[ue,Array.getElem?_setIfInBounds_ne (Ne.symm h)]
def Wh{l:Array Bool}{i j:Nat}(h:l.getD i false):(l.setIfInBounds j true).getD i false:=by
 by_cases e:i=j
 .subst e;have a:i<l.size:=by
   apply qa4;intro b;rw[ue,jh5 od]at h;cases h
  simp only[ue,jd3 a,jb5]
 .rw[xK e];exact h
def Ls{l:Array Bool}{i j:Nat}(h:(l.setIfInBounds j true).getD i true=false):l.getD i true=false:=by
 by_cases e:i=j
 .subst e
  by_cases a:i<l.size
  .simp[ue,jd3 a]at h
  .rw[ue,jh5 ot]at h;cases h
 .rw[xK e]at h;exact h
def Xl{l:Array Bool}{i:Nat}(h:l.getD i true=false):l.getD i false=false:=by
 by_cases a:i<l.size
 .simp only[ue,qc5 a,jb5]at h|-;exact h
 .rw[ue,jh5 od];rfl
section
variable {P:Program}{md:Region.Mode}{ops:Array Oper}{Q:Exit->Act->cg->Prop}
def xS{l:Array Bool}{j:Nat} : j∈Region.ready md ops l ↔ l.getD j true=false/\∃o,ops[j]?=some o/\∀e∈o.after,Region.binds md e->l.getD e.on false:=by
 unfold Region.ready;simp only[jb4,List.mem_range,qv,qh1];constructor
 .rintro⟨f,b,a⟩;refine⟨b,ops[j],qc5 f,λe d c=>?_⟩;rw[qc5 f,qf4,jb5,jc4]at a;have:=a e d;rw[c]at this;simpa using this
 .rintro⟨b,o,g,a⟩;refine⟨(kj.1 g).1,b,?_⟩;rw[g,qf4,jb5,jc4];intro e d
  cases c:Region.binds md e with
  | false=>rfl
  | true=>rw[a e d c];rfl
def Held (cs:List (Nat×(cg->Prop))) (l:Array Bool) (w:cg):Prop:=∀c∈cs,l.getD c.1 true=false->c.2 w
def KR (P:Program) (md:Region.Mode) (ops:Array Oper) (Q:Exit->Act->cg->Prop) (cs:List (Nat×(cg->Prop))):Nat->Array Bool->Act->cg->Prop
 | 0,l,a,w=>Region.ready md ops l=[]/\Q .normal a w
 | n+1,l,a,w=>(Region.ready md ops l=[]->Q .normal a w)/\∀i∈Region.ready md ops l,wpOp P ops Q i (λa' w'=>Held cs (l.setIfInBounds i true) w'/\KR P md ops Q cs n (l.setIfInBounds i true) a' w') a w
def Gc{cs:List (Nat×(cg->Prop))} : ∀(n:Nat) (l:Array Bool) (a:Act) (w:cg),KR P md ops Q cs n l a w->wpAny P md ops Q n l a w
 | 0,_,_,_,h=>h
 | n+1,_,_,_,h=>⟨h.1,λi d=>wpOp_mono (λb w' c=>Gc n _ b w' c.2) (h.2 i d)⟩
def Ex{cs:List (Nat×(cg->Prop))}{i:Nat}{u:Oper}{v:cm}{R:cg->Prop}(hi:ops[i]?=some u)(t:∀(j:Nat) (o:Oper) cs b,ops[j]?=some o->o.op ≠ .select cs b)(hQ:∀c a w,Q (.panic c) (a.put u.dst v) w->Q (.panic c) a w)(hn:i ∉ cs.map Prod.fst)
 (K:br) (hK:∀k,K k->∃o,ops[k]?=some o/\∃e∈o.after,Region.binds md e/\e.on=i) (hR:∀(l:Array Bool) w,(∀k,K k->l.getD k true=false)->Held cs l w->R w) :
 ∀(n:Nat) (l:Array Bool) (a:Act) (w:cg),(∀j g,ops[j]?=some g->j≠i->l.getD j true=false->(∀e∈g.after,Region.binds md e->e.on≠i)->u.apart ops g) ->
  i∈Region.ready md ops l->(∀k,K k->l.getD k true=false)->YieldsIf P ops R u v a->Held cs l w->KR P md ops Q cs n (l.setIfInBounds i true) (a.put u.dst v) w->KR P md ops Q cs (n+1) l a w:=λn=>by
 have E:∀c∈cs,c.1≠i:=λc z e=>hn (e ▸ List.mem_map_of_mem z);have self:∀(m:Nat) (l:Array Bool) (a:Act) (w:cg),(∀k,K k->l.getD k true=false)->YieldsIf P ops R u v a->Held cs l w->KR P md ops Q cs m (l.setIfInBounds i true) (a.put u.dst v) w->wpOp P ops Q i (λI w'=>Held cs (l.setIfInBounds i true) w'/\KR P md ops Q cs m (l.setIfInBounds i true) I w') a w:=λm l a w hk C B h =>
  YieldsIf.wpOp hi C (hR l w hk B) ⟨λc z e=>B c z (by rw[xK (E c z)]at e;exact e),h⟩
 have p:∀(l:Array Bool) (j:Nat),i∈Region.ready md ops l->j∈Region.ready md ops l->j≠i->j∈Region.ready md ops (l.setIfInBounds i true)/\∃g,ops[j]?=some g/\l.getD j true=false/\∀e∈g.after,Region.binds md e->e.on≠i:=λl j d N f=>by have⟨x,g,s,H⟩:=xS.1 N;have F:=Xl (xS.1 d).1;exact⟨xS.2 ⟨by rw[xK f];exact x,g,s,λe A r=>Wh (H e A r)⟩,g,s,x,λe A r eq=>by rw[<-eq,H e A r]at F;cases F⟩
 induction n with
 | zero =>
  intro l a w y d hk C B h;refine⟨λe=>(by rw[e]at d;cases d),λj M=>?_⟩
  by_cases f:j=i
  .subst f;exact self 0 l a w hk C B h
  .have x:=(p l j d M f).1;rw[h.1]at x;cases x
 | succ n ih =>
  intro l a w y d hk C B h;refine⟨λe=>(by rw[e]at d;cases d),λj M=>?_⟩
  by_cases f:j=i
  .subst f;exact self (n+1) l a w hk C B h
  .have⟨x,g,s,H,V⟩:=p l j d M f;have Z:=wpOp_putIf s (y j g s f H V) (λcs b=>t i u cs b hi) (λcs b=>t j g cs b s) hQ C (h.2 j x);refine wpOp_mono (λI w' Y=>?_) Z;have⟨U,L,hW⟩:=Y;have D:Held cs (l.setIfInBounds j true) w':=λc z e=>L c z (by
    by_cases J:c.1=j
    .rw[J]at e|-;have:=Ls e
     by_cases r:j<l.size
     .simp[ue,jd3 r]at e
     .rw[ue,jh5 od]at this;cases this
    .rw[xK J,xK (E c z)];rw[xK J]at e;exact e)
   have O:∀k,K k->(l.setIfInBounds j true).getD k true=false:=λk G=>by have⟨o,ho,e,A,r,W⟩:=hK k G;rw[xK (λX=>by subst X;rw[ho]at s;cases s;exact V e A r W)];exact hk k G
   refine⟨D,ih (l.setIfInBounds j true) I w' (λq oq hq S T=>y q oq hq S (Ls T)) ?_ O U D ?_⟩
   .have⟨m1,o,m2,m3⟩:=xS.1 d;exact xS.2 ⟨by rw[xK (Ne.symm f)];exact m1,o,m2,λe A r=>Wh (m3 e A r)⟩
   .rw[Array.setIfInBounds_comm true true f];exact hW
def dN{cs:List (Nat×(cg->Prop))}{i:Nat}{b:Oper}{v:cm}{n:Nat}{l:Array Bool}{a:Act}{w:cg}(d:Option Tmp)(f:Held cs l w)(h:KR P md ops Q cs n (l.setIfInBounds i true) (a.put d v) w)(hi:ops[i]?=some b:=by rfl)(g:b.dst=d:=by rfl)(o:Region.noSelect ops:=by kernel_rfl)(j:Region.free md ops l i:=by kernel_rfl)(m:(Region.ready md ops l).contains i:=by kernel_rfl)(e:∀c a w,Q (.panic c) (a.put b.dst v) w->Q (.panic c) a w:=by exact λ_ _ _ h=>h)(hn:(cs.map Prod.fst).contains i=false:=by rfl)
 (hy:YieldsIf P ops (λ_=>True) b v a:=by exact Or.inl ⟨by rfl,λw _=>by go_simp;with_reducible rfl⟩):KR P md ops Q cs (n+1) l a w :=
 Ex hi (Region.noSelect_spec o) e (λk=>by rw[List.contains_iff_mem.2 k]at hn;cases hn) (λ_=>False) (λ_ h=>h.elim) (λ_ _ _ _=>trivial) n l a w (Region.free_spec hi j) (by simpa using m) (λ_ h=>h.elim) hy f (by rw[g];exact h)
def fP{l:Array Bool}{w:cg} : Held [] l w:=λ_ h=>by cases h
def bL{k:Nat}{R:cg->Prop}{cs:List (Nat×(cg->Prop))}{l:Array Bool}{w:cg}(h:l.getD k true\/R w)(t:Held cs l w):Held ((k,R)::cs) l w:=λc a e=>by
 rcases ke.1 a with rfl|a
 .rcases h with h|h
  .rw[h]at e;cases e
  .exact h
 .exact t c a e
def ry{cs:List (Nat×(cg->Prop))}{i k:Nat}{b:Oper}{v:cm}{n:Nat}{l:Array Bool}{a:Act}{w:cg}{R:cg->Prop}(d:Option Tmp)(r:Held cs l w)(hc:(k,R)∈cs)(B:YieldsIf P ops R b v a)(h:KR P md ops Q cs n (l.setIfInBounds i true) (a.put d v) w)(hi:ops[i]?=some b:=by rfl)(s:b.dst=d:=by rfl)(A:Region.noSelect ops:=by kernel_rfl)(u:Region.free md ops l i:=by kernel_rfl)(z:(Region.ready md ops l).contains i:=by kernel_rfl)(p:∀c a w,Q (.panic c) (a.put b.dst v) w->Q (.panic c) a w:=by exact λ_ _ _ h=>h)(hn:(cs.map Prod.fst).contains i=false:=by rfl)
 (hk:l.getD k true=false:=by kernel_rfl) (hw:((ops[k]?).map λo=>o.after.any λe=>Region.binds md e&&e.on==i)=some true:=by kernel_rfl):KR P md ops Q cs (n+1) l a w :=
 Ex hi (Region.noSelect_spec A) p (λx=>by rw[List.contains_iff_mem.2 x]at hn;cases hn) (λq=>q=k) (λq g=>by subst g;have⟨o,y,f⟩:=qT.1 hw;have⟨e,t,j⟩:=Array.any_eq_true'.1 f;simp only[qv,jg2]at j;exact⟨o,y,e,t,j⟩) (λC w' m f=>f _ hc (m k rfl)) n l a w (Region.free_spec hi u) (by simpa using z) (λq g=>by rw[g];exact hk) B r (by rw[s];exact h)
def uP{cs:List (Nat×(cg->Prop))}{l:Array Bool}{a:Act}{w:cg}(b:Region.ready md ops l=[])(h:Q .normal a w):∀n,KR P md ops Q cs n l a w
 | 0=>⟨b,h⟩
 | n+1=>⟨λ_=>h,by rw[b];simp⟩
def wR{cs:List (Nat×(cg->Prop))}{b:Nat}{a:Act}{w:cg}(n:Nat)(hn:ops.size=n)(hm:P.follows .mixedOrders)(h:KR P .any ops Q cs n (Array.replicate n false) a w.drew):(Code.region b ops true).wp P Q a w:=wp_region_any hm (by rw[hn];exact Gc _ _ _ _ h)
def iE (P:Program) (md:Region.Mode) (ops:Array Oper) (Q:Exit->Act->cg->Prop) (cs:List (Nat×(cg->Prop))) (n:Nat) (l:Array Bool) (a:Act) (w:cg) (rs:List Nat):Prop:=∀i∈rs,wpOp P ops Q i (λa' w'=>Held cs (l.setIfInBounds i true) w'/\KR P md ops Q cs n (l.setIfInBounds i true) a' w') a w
def gU{cs:List (Nat×(cg->Prop))}{rs:List Nat}{n:Nat}{l:Array Bool}{a:Act}{w:cg}(c:Region.ready md ops l=rs)(b:rs.isEmpty=false)(h:iE P md ops Q cs n l a w rs):KR P md ops Q cs (n+1) l a w :=
 ⟨λe=>(by rw[c]at e;rw[e]at b;cases b),by rw[c];exact h⟩
def iE.nil{cs:List (Nat×(cg->Prop))}{n:Nat}{l:Array Bool}{a:Act}{w:cg} : iE P md ops Q cs n l a w []:=λ_ h=>by cases h
def iE.cons{cs:List (Nat×(cg->Prop))}{n:Nat}{l:Array Bool}{a:Act}{w:cg}{i:Nat}{o:Oper}{rs:List Nat}(d:ops[i]?=some o)
 (h:∀K:Act->cg->Prop,Shut (∀a w,Held cs (l.setIfInBounds i true) w->KR P md ops Q cs n (l.setIfInBounds i true) a w->K a w)->if Region.wanted o (yielded ops a.tmps)then Oper.wp P o a w K Q else K (a.put o.dst undef) w)
 (hs:iE P md ops Q cs n l a w rs):iE P md ops Q cs n l a w (i::rs):=λj b=>by
 rcases ke.1 b with rfl|b
 .exact wpOp_step d (λK hK=>h K (λa w c hW=>hK a w ⟨c,hW⟩))
 .exact hs j b
end
