/- For every list of batches (and, in TopParts, every batch) whose reading holds at most 1048576 values and letters, TopMade, TopSpent, TopRuns and TopParts return true and leave their arguments as they were. Condition: that bound on the reading. -/
import Derived.Test.YtnamdihclpbdfabGreatKtZav
import Derived.OpenShut
import Derived.JoinedCond
namespace Go.Proofs.YtnamdihclpbdfabGreat
set_option linter.all false
open Go.Proofs.Tryz
set_option maxRecDepth 100000
set_option maxHeartbeats 40000000
def dh (L:Lg) (s:Nat) (c:Int):Lg:=λj=>if j=s then { L j with cnt:=c } else L j
section
variable {L:Lg}{s:Nat}{c d:Int}
def BH(k:Nat):∃x,dh L s c k = { L k with cnt:=x }:=by
 unfold dh;split
 .exact⟨c,rfl⟩
 .exact⟨(L k).cnt,rfl⟩
def adJ:(dh L s c s).cnt=c:=by unfold dh;rw[if_pos rfl]
def QU(k:Nat):(dh L s c k).is=(L k).is:=by have⟨x,e⟩:=BH (L:=L) (s:=s) (c:=c) k;rw[e]
def QO(k:Nat):(dh L s c k).ji=(L k).ji:=by have⟨x,e⟩:=BH (L:=L) (s:=s) (c:=c) k;rw[e]
def aeC{i:Nat}{v:Int} : gY (dh L s c) i v=dh (gY L i v) s c:=by
 funext j
 unfold dh gY;dsimp only
 repeat' split
 all_goals rfl
def aeD{i:Nat}{v:Va} : NY (dh L s c) i v=dh (NY L i v) s c:=by
 funext j
 unfold dh NY;dsimp only
 repeat' split
 all_goals rfl
def aeg{i:Nat}{A:Ac}(h:i≠s):vU (dh L s c) i A=dh (vU L i A) s c:=by
 funext j
 unfold dh vU;dsimp only
 by_cases e:j=i
 .subst e;rw[if_pos rfl,if_pos rfl,if_neg h]
 .rw[if_neg e,if_neg e]
def aeB{i j:Nat}{n:Int} : mV (dh L s c) i j n=dh (mV L i j n) s c:=by simp only[mV,QO,aeC]
def RJ{fr dn n:Int} : moveF (dh L s c) fr dn n=(dh (moveF L fr dn n).1 s c,(moveF L fr dn n).2):=by
 have a:∀n,ou (dh L s c) n=ou L n:=λn=>by unfold ou;rw[QU]
 unfold moveF;rw[a,a,QO,aeB];split
 .split
  .split<;>rfl
  .rfl
 .rfl
def cnt_free:∀n j,ib (dh L s c) n j=ib L n j
 | 0,j=>rfl
 | n+1,j=>by simp only[ib,QU,cnt_free n (j+1)]
end
def aee{a b k:Int}(h:(addN a k).2=0)(hk:0<=k)(e:0<=b)(hb:b<=a):(addN b k).2=0/\0<=(addN b k).1/\(addN b k).1<=(addN a k).1:=by
 unfold addN kF at h|-;split at h
 .split at h
  .rename_i c d;have g1:kE b/\kE k:=⟨by have:=c.1;simp[kE]at this|-;omega,c.2⟩;have g2:kE (b+k):=by simp[kE]at d|-;omega
   rw[if_pos g1,if_pos g2,if_pos c,if_pos d];exact⟨rfl,ON,ON⟩
  .cases h
 .cases h
structure Sim (s:Nat) (c d0 p0:Int) (W V:Wk):Prop where
 L:V.L=dh W.L s c
 fe:V.fe=W.fe
 src:V.src=W.src
 aC:V.aC - V.paid=W.aC - W.paid
 done:W.done=V.done+d0
 paid:W.paid=V.paid+p0
 Ze:0<=V.Ze/\V.Ze<=W.Ze
section
variable {s:Nat}{c d0 p0:Int}{W V:Wk}
def aes{i:Nat}{en:En}{x:Va}(h:Sim s c d0 p0 W V)(hW:WI W)(hi:i<12)(t:(W.L i).is=2)(b:Ah en)(w:Fit (W.L i).par x)(y:x.size<=120000)(a:(pK W i en x).2.2=0):(pK V i en x).2=(pK W i en x).2/\Sim s c d0 p0 (pK W i en x).1 (pK V i en x).1:=by
 have j:=KQ (aC:=W.aC - W.paid) (hW.gl.ac i hi) t b w y;have⟨q,v⟩:=BH (L:=W.L) (s:=s) (c:=c) i;have e:Fy en (lD (V.L i)) [.nd 11 [(V.L i).par,(V.L i).oh]] [aY x (V.L i).val] (V.aC - V.paid)=Fy en (lD (W.L i)) [.nd 11 [(W.L i).par,(W.L i).oh]] [aY x (W.L i).val] (W.aC - W.paid):=by rw[h.aC,h.L,v];rfl
 unfold pK at a|-;rw[e];generalize Fy en (lD (W.L i)) [.nd 11 [(W.L i).par,(W.L i).oh]] [aY x (W.L i).val] (W.aC - W.paid)=r at j a|-;have⟨F,E,g⟩:=j;unfold Kk at a|-;split at a
 .rename_i d;have⟨u,k,n,q,z,G,H,I,A,p,B,f2,C,D⟩:=g d;split at a
  .rename_i f;have⟨l,m,o⟩:=aee f u.1 h.Ze.1 h.Ze.2;simp only[if_pos d,if_pos f,if_pos l,p];exact⟨trivial,by dsimp only;rw[h.L,aeD],h.fe,h.src,by have:=h.aC;dsimp only;omega,h.done,by have:=h.paid;dsimp only;omega,m,o⟩
  .rename_i f;exact absurd a f
 .rename_i d;exact absurd a d
def aer{r:Rq}{i:Nat}(h:Sim s c d0 p0 W V)(hW:WI W)(p:RQ r)(hi:i<12)(hn:(W.L i).is≠0)(m:0<=r.fr/\r.fr<12)(k:0<=r.lG/\r.lG<=1152921504606846976)(a:(Cr W r i).2.2=0):(Cr V r i).2=(Cr W r i).2/\Sim s c d0 p0 (Cr W r i).1 (Cr V r i).1:=by
 have⟨q,o⟩:=BH (L:=W.L) (s:=s) (c:=c) i;have t:qO (V.L i)=qO (W.L i):=by rw[h.L,o];rfl
 have n:(V.L i).is=(W.L i).is:=by rw[h.L,QU]
 have l:(V.L i).ji=(W.L i).ji:=by rw[h.L,QO]
 unfold Cr at a|-;rw[t]
 cases d:argF r (qO (W.L i))with
 | none=>rw[d]at a;cases a
 | some x =>
  rw[d]at a;dsimp only at a|-;rw[n,l];split at a
  .rename_i b;simp only[if_pos b];exact⟨trivial,h⟩
  .rename_i b;simp only[if_neg b];have j:(W.L i).is=2:=by rcases Eh (hW.gl.ac i hi).whole with h|h|h<;>omega
   have e:qO (W.L i)=(W.L i).par:=by unfold qO;rw[if_neg b];rfl
   rw[e]at d;have⟨g,f2⟩:=OA p d;have f:=hW.gl.EX.shares i hi;exact aes h hW hi j Kf g f2 a
def Y4{r:Rq}(h:Sim s c d0 p0 W V)(hW:WI W)(j:RQ r)(a:(mW W r).2.2=0):(mW V r).2=(mW W r).2/\Sim s c d0 p0 (mW W r).1 (mW V r).1:=by
 have g:=hW.gl.move (fr:=r.fr) (dn:=r.dst) (n:=r.lG);unfold mW at a|-;rw[h.L,RJ];dsimp only;split at a
 .rename_i h0;simp only[if_pos h0];have⟨b,k,d,e,f⟩:=Gh h0;have i:((moveF W.L r.fr r.dst r.lG).1 r.dst.toNat).is≠0:=by rw[f,Qa];exact e
  exact aer (W:={ W with L:=(moveF W.L r.fr r.dst r.lG).1 }) (V:={ V with L:=dh (moveF W.L r.fr r.dst r.lG).1 s c }) ⟨rfl,h.fe,h.src,h.aC,h.done,h.paid,h.Ze⟩ ⟨g,hW.aC,hW.paid,hW.Ze⟩ j od i b d a
 .rename_i h0;exact absurd a h0
def aet{o:lI}(h:Sim s c d0 p0 W V)(k:(W.L s).is≠0)(a:(wy W o).2=0):(wy V o).2=0/\Sim s c d0 p0 (wy W o).1 (wy V o).1:=by
 unfold wy at a|-
 cases d:ku o with
 | error e=>rw[d]at a;exact absurd a (Xw d)
 | ok A =>
  rw[d]at a;dsimp only at a|-;rw[h.L,cnt_free];split at a
  .cases a
  .rename_i b;simp only[if_neg b];have j:=SF (L:=W.L);have h0:=Im 12 0 rfl (show ib W.L 12 0<12 by omega);generalize ib W.L 12 0=i at h0 a|-;have g:i≠s:=λe=>k (by rw[<-e];exact h0);unfold aaJ at a|-;rw[h.L,h.src,aeg g,RJ];dsimp only;split at a
   .rename_i f;simp only[if_pos f];exact⟨trivial,rfl,h.fe,rfl,h.aC,h.done,h.paid,h.Ze⟩
   .rename_i f;exact absurd a f
def ae1{r:Rq}(h:Sim s c d0 p0 W V)(hW:WI W)(d:RQ r)(g:(W.L s).is≠0)(a:(yS W r).2.2=0):(yS V r).2=(yS W r).2/\Sim s c d0 p0 (yS W r).1 (yS V r).1:=by
 cases r with
 | told f v=>exact Y4 h hW d a
 | op f o =>
  simp only[yS]at a|-;split at a
  .rename_i b;simp only[if_pos b];exact Y4 h hW d a
  .rename_i b;simp only[if_neg b];split at a
   .rename_i e;simp only[if_pos e];have⟨i,j⟩:=aet h g a;exact⟨by rw[i,a],j⟩
   .cases a
end
def ad8{s:Nat}{c d0 p0:Int}(h9:s<12)(hd0:0<=d0):∀(N:Nat) (W V:Wk) (rs:List Rq),PW W rs->Sim s c d0 p0 W V->(W.L s).is≠0->(rowF N W rs).2=0->(rowF N V rs).2=0/\Sim s c d0 p0 (rowF N W rs).1 (rowF N V rs).1
 | 0,W,V,rs,_,_,_,he=>by cases he
 | N+1,W,V,[],_,h,_,_=>⟨rfl,h⟩
 | N+1,W,V,r::rs,hp,h,hs,he=>by
  have hX:=@Way.next _ way W r rs hp
  have hD:=ae1 h hp.1.toWI (hp.2 _ (ja3 ..)) hs;have hk:=(acY (r:=r) hp.1.toWI s h9).2 hs;have hd:=hp.1.done;have hv:=h.done;simp only[rowF]at he|-;split at he
  .cases he
  .rename_i h24;rw[if_neg (show ¬V.done=24 by omega),if_neg h24];split at he
   .rename_i h0;obtain⟨d1,d2⟩:=hD h0;have d3:(yS V r).2.2=0:=by rw[d1];exact h0
    rw[if_pos d3,if_pos h0,d1];exact ad8 h9 hd0 N { (yS W r).1 with done:=(yS W r).1.done+1 } { (yS V r).1 with done:=(yS V r).1.done+1 } _ (hX h24 h0) ⟨d2.L,d2.fe,d2.src,d2.aC,by have:=d2.done;dsimp only;omega,d2.paid,d2.Ze⟩ (by dsimp only;rw[<-hk.is];exact hs) he
   .rename_i h0;exact absurd he h0
def aep{W:Wk}{o:lI}{os:List lI}{c:Int}{n:Nat}(e:QW W (o::os))(hn:W.src=Int.ofNat n)(u:n<4)(g:GL (dh W.L n c) W.fe)(hc:c≠1152921504606846976)(w:(rowF 26 W [.op W.src o]).2=0) :
 ∃m md,bn (dh W.L n c) W.fe ⟨W.src,c+1,0,W.aC - W.paid,[o]⟩=(dh (rowF 26 W [.op W.src o]).1.L n (c+1),(rowF 26 W [.op W.src o]).1.fe,⟨0,(rowF 26 W [.op W.src o]).1.done - W.done,(rowF 26 W [.op W.src o]).1.paid - W.paid,m,md⟩):=by
 have d:=(g.ac n od).per.2 u;have b:=e.1.toWI;have C:=b.paid;have B:=b.aC;have A:=g.EX.shares n od;have a:W.src.toNat=n:=by rw[hn];simp
 have x:W.src=(n:Int):=hn;have t:mf (dh W.L n c) W.fe ⟨W.src,c+1,0,W.aC - W.paid,[o]⟩=0:=by unfold mf;dsimp only;rw[a,if_pos g.good,if_pos (by unfold p8;rw[a,d];simp;omega),if_pos (by rw[adJ];exact⟨rfl,hc⟩),oc,if_pos oe,oa]
 have v:jo (dh W.L n c) ⟨W.src,c+1,0,W.aC - W.paid,[o]⟩=dh W.L n (c+1):=by
  funext j
  unfold jo dh;dsimp only;rw[a];split
  .simp
  .rfl
 have h:PW W [.op W.src o]:=⟨e.1,λr l=>by rw[qu]at l;subst l;exact e.2 o oe⟩;have⟨y,f⟩:=ad8 (s:=n) (c:=c+1) (d0:=W.done) (p0:=W.paid) od e.1.done.1 26 W ⟨dh W.L n (c+1),W.fe+0,W.src,W.aC - W.paid,0,0,0,[]⟩ [.op W.src o] h ⟨rfl,ON,rfl,ON,ON,ON,Int.le_refl 0,b.Ze.1⟩ (by rw[QU]at d;omega) w;have p:=f.done;have q:=f.paid;have i:=f.L;have k:=f.fe;unfold bn;rw[if_pos t];dsimp only;rw[v];simp only[doneF,if_pos y];generalize rowF 26 ⟨dh W.L n (c+1),W.fe+0,W.src,W.aC - W.paid,0,0,0,[]⟩ [.op W.src o]=z at p q i k|-;refine⟨z.1.Ze,z.1.made,(if_pos trivial).trans ?_⟩;rw[i,k,show z.1.done=(rowF 26 W [.op W.src o]).1.done - W.done by omega,show z.1.paid=(rowF 26 W [.op W.src o]).1.paid - W.paid by omega]
def play_ok:∀(n:Nat) (bs:List Bt) (L:Lg) (f m:Int),su bs->GL L f->(∀k,k<12->(L k).cnt<=m)->GL (playF n bs L f).1 (playF n bs L f).2/\∀k,k<12->((playF n bs L f).1 k).cnt<=m+n
 | 0,bs,L,f,m,_,h,c=>⟨h,λk a=>by have:=c k a;simp only[playF];omega⟩
 | n+1,[],L,f,m,_,h,c=>⟨h,λk a=>by have:=c k a;simp only[playF];omega⟩
 | n+1,b::bs,L,f,m,g,h,c=>by
  have e:=g.cap (ja3 ..);have a:=JJ h e;have⟨g1,g2⟩:=play_ok n bs _ _ (m+1) (λx i=>g x (jb6 _ i)) (l6 h e) λk d=>by have:=(a k d).2;have:=c k d;omega
  simp only[playF];exact⟨g1,λk a=>by have:=g2 k a;omega⟩
open Pe
namespace topParts
set_option maxRecDepth 100000
set_option maxHeartbeats 40000000
abbrev sD (L:Lg) (f:Int) (L':Lg) (f':Int) (b:Bt) (r:Rc):Prop:=Hd ⟨14,[lC L f,lC L' f',btA b,.agg (Me r)],aQ true⟩
abbrev yM (S:St) (ex:Nat) (q:St):Prop:=vO prog f8.ntmps ⟨gF f8,S,ex,q⟩
def QG (L:Lg) (f:Int):St:=oC 4 0 ((ZQ 0).map .d)++oC 6 0 (Tp L f)
def vF (bs:List Bt) (L:Lg) (f:Int) (i:Nat):St:=[((0,0),.of (vT bs)),((0,1),.of (ZP 14)),((0,4),.of (.one (.p 4 0))),((0,6),.of (.one (.p 6 0))),((0,7),.of (jA i))]++QG L f
def IA (L:Lg) (f:Int):St:=[((0,4),.of (.one (.p 4 0))),((0,6),.of (.one (.p 6 0)))]++QG L f
section
variable {bs:List Bt}{L L':Lg}{f f':Int}{i:Nat}{b:Bt}{r:Rc}{ex:Nat}{q:St}
def jN(hi:bs.length<=i):yM (vF bs L f i) 2 (IA L f) :=
 xQ (e:=1) [(18,bA false)] [] (al (show mD (aQ (decide (Int.ofNat i<((bs.map wo).length:Int)))) (bA false) from wH oY) al0)
def mZ(hi:i<bs.length)(h:40<=i):yM (vF bs L f i) 2 (IA L f) :=
 xQ (e:=1) [(18,bA true),(21,bA false)] [] (al (show mD (aQ (decide (Int.ofNat i<((bs.map wo).length:Int)))) (bA true) from is_lt oY) (al (show mD (aQ (decide (Int.ofNat i<40))) (bA false) from wH ot) al0))
def ni(hi:bs[i]?=some b)(h:i<40)(a:Mg L f (rM b) L' f' (Me r))(j:sD L f L' f' (rM b) r)(hn:yM (vF bs L' f' (i+1)) ex q):yM (vF bs L f i) ex q:=by
 have l:mD (aQ (decide (Int.ofNat i<((bs.map wo).length:Int)))) (bA true):=is_lt (by have:=(qS.1 hi).1;rw[xj];simp;omega);have n:mD (aQ (decide (Int.ofNat i<40))) (bA true):=is_lt ot;have o:=Cm hi;have p:mD (lW (IntKind.i64.wrap (Int.ofNat i+1))) (jA (i+1)):=yY (zF oe ot ot);have⟨s,c,eD,aC,os⟩:=b;have⟨e,d,g,m,md⟩:=r;unfold rM at a j
 by_cases k:3000<aC
 .rw[if_pos k]at a j;exact LG [(18,bA true),(21,bA true),(27,.one (.e (wo ⟨s,c,eD,aC,os⟩) 0)),(31,bA true),(24,jA (i+1))] [⟨_,a⟩,⟨_,j⟩] hn (al l (al n (al o (al (is_lt k) (al p al0)))))
 .rw[if_neg k]at a j;exact LG [(18,bA true),(21,bA true),(27,.one (.e (wo ⟨s,c,eD,aC,os⟩) 0)),(31,bA false),(24,jA (i+1))] [⟨_,a⟩,⟨_,j⟩] hn (al l (al n (al o (al (wH k) (al p al0)))))
end
def oH{bs:List Bt}(hb:su bs)(hk:∀{L:Lg}{f:Int}{b:Bt},GL L f->pg b->sD L f (bn L f b).1 (bn L f b).2.1 b (bn L f b).2.2):∀(n i:Nat) (L:Lg) (f:Int),i+n=40->GL L f->yM (vF bs L f i) 2 (IA (playF n (bs.drop i) L f).1 (playF n (bs.drop i) L f).2)
 | 0,i,L,f,k,c=>by
  simp only[playF]
  by_cases h:i<bs.length
  .exact mZ h od
  .exact jN od
 | n+1,i,L,f,k,c=>by
  cases g:bs.drop i with
  | nil =>
   have : bs.length<=i:=by have:=congrArg List.length g;simp at this;omega
   simp only[playF];exact jN this
  | cons b m =>
   have⟨l,a,e⟩:=kX g;have d:=hb.cap (jz a);have j:=oH hb hk n (i+1) _ _ od (l6 c d);rw[e]at j;simp only[playF];exact ni a od (BV c d) (hk c d) j
def qR{bs:List Bt}(hb:su bs)(hk:∀{L:Lg}{f:Int}{b:Bt},GL L f->pg b->sD L f (bn L f b).1 (bn L f b).2.1 b (bn L f b).2.2):Hd ⟨8,[vT bs,ZP 14],.rz [lC (playF 40 bs newL 0).1 (playF 40 bs newL 0).2,bA true]⟩:=by have a:=oH hb hk 40 0 newL 0 rfl new_GL;rw[qg1]at a;have e:=H_new;have d:=H_alive;generalize playF 40 bs newL 0=z at a|-;have⟨L2,f2⟩:=z;have g:=wI (S:=vF bs newL 0 0) (q:=gF f8=gF f8) rfl (ps:=[]) al0;exact Ce func8 [] [_] (λx c=>by rw[qu]at c;subst c;exact a) [⟨_,e⟩,⟨_,d⟩] g
def look{L:Lg}{f:Int}{b:Bt}(h:GL L f)(hb:pg b):sD L f (bn L f b).1 (bn L f b).2.1 b (bn L f b).2.2:=by generalize bn L f b=z;have⟨L2,f2,e,d,g,m,md⟩:=z;have⟨s,c,eD,aC,os⟩:=b;exact aF func14 []
abbrev ptL (S:St) (ex:Nat) (q:St):Prop:=vO prog f6.ntmps ⟨gF f6,S,ex,q⟩
def ptQ (n:Nat) (c1 g:Int) (os:List lI) (La:Lg) (fa:Int) (ra:Rc) (L:Lg) (f dn gs:Int):St:=[((0,3),.of (.one (.p 3 0))),((0,5),.of (.one (.p 5 0))),((0,7),.of (.one (.p 7 0))),((0,8),.of (.one (.p 8 0))),((0,9),.of (iA dn)),((0,10),.of (iA gs))]++(oC 3 0 ((wo ⟨Int.ofNat n,c1,0,g,os⟩).map .d)++(oC 5 0 (Tp L f)++(oC 7 0 (Tp La fa)++oC 8 0 (Me ra))))
def ptS (n:Nat) (c1 g:Int) (os:List lI) (La:Lg) (fa:Int) (ra:Rc) (L:Lg) (f dn gs:Int) (j:Nat):St:=[((0,60),lW (os.map wO).length),((0,61),.of (jA j))]++ptQ n c1 g os La fa ra L f dn gs
section
variable {n j:Nat}{c c1 g fa f f2 dn gs d1 g1 m d2 g2 g3:Int}{os:List lI}{o:lI}{La L L2:Lg}{ra:Rc}{md:List Int}{ex:Nat}{q:St}
def aeU(d:os.length<=j):ptL (ptS n c1 g os La fa ra L f dn gs j) 2 (ptQ n c1 g os La fa ra L f dn gs):=by have⟨b,d0,c,h,a⟩:=ra;exact xQ (e:=1) [(62,bA false)] [] (al (show mD (aQ (decide (Int.ofNat j<((os.map wO).length:Int)))) (bA false) from wH oY) al0)
def aeI(hn:n<4)(b:os[j]?=some o)(w:j<=1000)(l:Mg L f ⟨Int.ofNat n,c+1,0,g3,[o]⟩ L2 f2 (Me ⟨0,d1,g1,m,md⟩))(e:IntKind.i64.wrap ((L n).cnt+1)=c+1)(h:IntKind.i64.wrap (g - gs)=g3)(i:IntKind.i64.wrap (dn+d1)=d2)(k:IntKind.i64.wrap (gs+g1)=g2)(D:ptL (ptS n c1 g os La fa ra L2 f2 d2 g2 (j+1)) ex q):ptL (ptS n c1 g os La fa ra L f dn gs j) ex q:=by
 have a:=(qS.1 b).1;have y:mD (aQ (decide (Int.ofNat j<((os.map wO).length:Int)))) (bA true):=is_lt oY;have p:mD (lW (IntKind.i64.wrap (Int.ofNat j+1))) (jA (j+1)):=yY (zF oe ot ot);have z:qA 23 (os.map wO) (some j) (some (some (j+1)))=some (.of (.one (.d (.s 23 ([o].map wO))))):=by
  have v:(os.take (j+1)).drop j=[o]:=by rw[qg0 a,(qS.1 b).2,List.drop_left' ot]
  show ((nH (j+1) (os.map wO)).bind (xw j)).map (λr=>AV.of (.one (.d (.s 23 r))))=_;rw[Cu _ _ Kd];simp only[Option.bind_some];rw[Bc _ _ ot,<-List.map_take,<-List.map_drop,v];rfl
 have t:=yY e;have A:=yY h;have B:=yY i;have C:=yY k;generalize x:c+1=u at l t;clear e h i k b a w x;have⟨F,d0,G,H,E⟩:=ra;rcases four hn with rfl|rfl|rfl|rfl
 all_goals exact LG [(62,bA true),(69,jA (j+1)),(70,.one (.d (.s 23 ([o].map wO)))),(77,iA u),(81,iA g3),(97,iA d2),(101,iA g2),(102,jA (j+1))] [⟨_,l⟩] D (al y (al p (al z (al t (al A (al B (al C (al p al0))))))))
end
def aeL{n:Nat}{c1 g fa:Int}{os:List lI}{La:Lg}{ra:Rc}(hn:n<4)(B:os.length<=8)(G:g<=3000):∀(u:List lI) (j:Nat) (W:Wk) (c:Int),os.drop j=u->QW W u->W.src=Int.ofNat n->W.aC=g->GL (dh W.L n c) W.fe->(0<=c/\c+u.length<=1000)->(doneF W u).2=0 ->
 ptL (ptS n c1 g os La fa ra (dh W.L n c) W.fe W.done W.paid j) 2 (ptQ n c1 g os La fa ra (dh (doneF W u).1.L n (c+u.length)) (doneF W u).1.fe (doneF W u).1.done (doneF W u).1.paid)
 | [],j,W,c,s,a,p,e,l,w,h=>by simp only[doneF,qa0];rw[show c+((0:Nat):Int)=c by omega];exact aeU (by have:=congrArg List.length s;simp at this;omega)
 | o::u,j,W,c,s,a,p,e,l,w,h=>by
  have⟨H,I,t⟩:=kX s;have F:=a.1.done;have K:=a.1.paid;have C:=row_ok 26 W [.op W.src o] ⟨a.1,λr y=>by rw[qu]at y;subst y;exact a.2 o oe⟩ od;simp only[doneF]at h|-;split at h
  .rename_i f;rw[if_pos f];have d:=wayC.next a f
   have J:=d.1.paid;have E:=d.1.done;have v:pg ⟨W.src,c+1,0,W.aC - W.paid,[o]⟩:=⟨λx z=>by rw[qu]at z;subst z;exact a.2 _ oe,by show W.aC - W.paid<=50000;omega⟩;simp only[jj]at w|-;have⟨m,md,D⟩:=aep a p hn l od f;have q:=BV l v;have b:=l6 l v;rw[D]at q b;dsimp only at q b;have hA2:=q;rw[show (⟨W.src,c+1,0,W.aC - W.paid,[o]⟩:Bt)=⟨Int.ofNat n,c+1,0,g - W.paid,[o]⟩ by rw[p,e]]at hA2;have k:=C.same;have i:c+1+(u.length:Int)=c+((u.length+1:Nat):Int):=od
   have A:=aeL (c1:=c1) (fa:=fa) (La:=La) (ra:=ra) hn B G u (j+1) _ (c+1) t d (k.1.trans p) (k.2.1.trans e) b od h;rw[i]at A;refine aeI hn I od hA2 ?_ ?_ ?_ ?_ A
   .rw[adJ];exact zF rfl od od
   .exact zF rfl od od
   .exact zF od od od
   .exact zF od od od
  .rename_i f;exact absurd h f
def xG (g:Int):Int:=min (max g 0) 3000
section
variable {bs:List Bt}{L La:Lg}{f fa s c eD aC:Int}{os:List lI}{ra:Rc}{n:Nat}
abbrev PlH (bs:List Bt) (L:Lg) (f:Int):Prop:=Hd ⟨8,[vT bs,ZP 14],.rz [lC L f,bA true]⟩
abbrev PtH (bs:List Bt) (b:Bt):Prop:=Hd ⟨6,[vT bs,btA b],aQ true⟩
def g_1(aC:Int):mD (lW (if aC<0 then 0 else aC)) (iA (max aC 0)):=yY vy
def g_2(aC:Int):mD (lW (if 3000<max aC 0 then 3000 else max aC 0)) (iA (xG aC)):=yY (by unfold xG;split<;>omega)
def aeX(a:PlH bs L f)(h:s<0):PtH bs ⟨s,c,eD,aC,os⟩:=runT func6 [(23,iA (max aC 0)),(24,iA (xG aC)),(29,bA true)] [⟨_,a⟩] (al (g_1 aC) (al (g_2 aC) (al (is_lt h) al0)))
def aeV(b:PlH bs L f)(h:0<=s)(a:4<=s):PtH bs ⟨s,c,eD,aC,os⟩:=runT func6 [(23,iA (max aC 0)),(24,iA (xG aC)),(29,bA false),(33,bA true)] [⟨_,b⟩] (al (g_1 aC) (al (g_2 aC) (al (wH (show ¬s<0 by omega)) (al (is_le a) al0))))
def aeW(b:PlH bs L f)(h:0<=s)(a:¬4<=s)(e:os.length<2):PtH bs ⟨s,c,eD,aC,os⟩:=by have d:mD (aQ (decide (((os.map wO).length:Int)<2))) (bA true):=is_lt Kd;exact runT func6 [(23,iA (max aC 0)),(24,iA (xG aC)),(29,bA false),(33,bA false),(39,bA true)] [⟨_,b⟩] (al (g_1 aC) (al (g_2 aC) (al (wH (show ¬s<0 by omega)) (al (QA a) (al d al0)))))
def ae5(e:PlH bs L f)(hn:n<4)(b:¬os.length<2){c1:Int}(hc:IntKind.i64.wrap ((L n).cnt+1)=c1)(d:Mg L f ⟨Int.ofNat n,c1,0,xG aC,os⟩ La fa (Me ra))(a:ra.code≠0):PtH bs ⟨Int.ofNat n,c,eD,aC,os⟩:=by
 have g:mD (aQ (decide (((os.map wO).length:Int)<2))) (bA false):=wH Kd;have h:=yY hc;have i:jJ (!decide (ra.code=0)) true:=eT (by simp[a]);have j:=g_1 aC;have k:=g_2 aC;clear hc a b;have⟨m,d0,o,p,l⟩:=ra;rcases four hn with rfl|rfl|rfl|rfl
 all_goals exact runT func6 [(23,iA (max aC 0)),(24,iA (xG aC)),(39,bA false),(47,iA c1),(57,bA true)] [⟨_,e⟩,⟨_,d⟩] (al j (al k (al g (al h (al i al0)))))
def aeY(l:PlH bs L f)(hn:n<4)(j:¬os.length<2){c1 i d g m dn e:Int}{md:List Int}(hc:IntKind.i64.wrap ((L n).cnt+1)=c1)(k:Mg L f ⟨Int.ofNat n,c1,0,xG aC,os⟩ La fa (Me ⟨0,d,g,m,md⟩))(a:dn=d)(b:e=g)
 (hL:ptL (ptS n c1 (xG aC) os La fa ⟨0,d,g,m,md⟩ L f 0 0 0) 2 (ptQ n c1 (xG aC) os La fa ⟨0,d,g,m,md⟩ (dh La n i) fa dn e)) (hS:Hd ⟨16,[lC La fa,lC La fa],aQ true⟩):PtH bs ⟨Int.ofNat n,c,eD,aC,os⟩:=by
 have o:mD (aQ (decide (((os.map wO).length:Int)<2))) (bA false):=wH Kd;have p:=yY hc;have r:=g_1 aC;have s:=g_2 aC;have t:jJ (decide (dn=d)) true:=eT (zj a);have u:jJ (decide (e=g)) true:=eT (zj b);clear hc j a b;have v:=wI (S:=ptS n c1 (xG aC) os La fa ⟨0,d,g,m,md⟩ L f 0 0 0) (q:=gF f6=gF f6) rfl (ps:=[]) al0;rcases four hn with rfl|rfl|rfl|rfl
 all_goals exact Ce func6 [(23,iA (max aC 0)),(24,iA (xG aC)),(39,bA false),(47,iA c1),(121,bA true),(127,bA true)] [_] (λx h=>by rw[qu]at h;subst h;exact hL) [⟨_,l⟩,⟨_,k⟩,⟨_,hS⟩] (al r (al s (al o (al p (jX v (al t (al u al0)))))))
end
def xY{bs:List Bt}{b:Bt}(hb:su bs)(G:∀o∈b.ops,Ch o):Hd ⟨6,[vT bs,btA b],aQ true⟩:=by
 have h:=qR hb look;have⟨d,l⟩:=play_ok 40 bs newL 0 0 hb new_GL (λk _=>by unfold newL AB;exact qd2 0);generalize playF 40 bs newL 0=z at h d l;have⟨L,f⟩:=z;dsimp only at h d l;have⟨s,c,eD,aC,os⟩:=b;dsimp only at G
 by_cases C:0<=s
 .by_cases v:4<=s
  .exact aeV h C v
  .by_cases u:os.length<2
   .exact aeW h C v u
   .obtain⟨n,rfl⟩:∃n:Nat,s=Int.ofNat n:=⟨s.toNat,ot⟩;have y:n<4:=by simp at v;omega
    have H:=(d.ac n od).cnt.1;have I:=l n od;have F:IntKind.i64.wrap ((L n).cnt+1)=(L n).cnt+1:=zF rfl od od;have A:0<=xG aC/\xG aC<=3000:=by unfold xG;omega
    have w:pg ⟨Int.ofNat n,(L n).cnt+1,0,xG aC,os⟩:=⟨G,by show xG aC<=50000;omega⟩;have r:=BV d w;have a:=l6 d w
    by_cases m:(bn L f ⟨Int.ofNat n,(L n).cnt+1,0,xG aC,os⟩).2.2.code=0
    .have q:mf L f ⟨Int.ofNat n,(L n).cnt+1,0,xG aC,os⟩=0:=qa4 λq=>by
      unfold bn at m;rw[if_neg q]at m;exact q m
     have J:=qF d w q;have D:=(kM q).2.2.2.2.1;have p:(doneF ⟨jo L ⟨Int.ofNat n,(L n).cnt+1,0,xG aC,os⟩,f+0,Int.ofNat n,xG aC,0,0,0,[]⟩ os).2=0:=qa4 λt=>by unfold bn at m;rw[if_pos q,if_neg t]at m;exact t m
     have B:dh (jo L ⟨Int.ofNat n,(L n).cnt+1,0,xG aC,os⟩) n (L n).cnt=L:=by
      funext j
      unfold dh jo;dsimp only
      by_cases e:j=n
      .subst e;simp
      .rw[if_neg e,if_neg (by simpa using e)]
     have g:=aeL (c1:=(L n).cnt+1) (fa:=(bn L f ⟨Int.ofNat n,(L n).cnt+1,0,xG aC,os⟩).2.1) (La:=(bn L f ⟨Int.ofNat n,(L n).cnt+1,0,xG aC,os⟩).1) (ra:=(bn L f ⟨Int.ofNat n,(L n).cnt+1,0,xG aC,os⟩).2.2) y (by dsimp only at D;omega) A.2 os 0 ⟨jo L ⟨Int.ofNat n,(L n).cnt+1,0,xG aC,os⟩,f+0,Int.ofNat n,xG aC,0,0,0,[]⟩ (L n).cnt rfl J rfl rfl (by dsimp only;rw[B,Int.add_zero];exact d) (by dsimp only at D;omega) p;dsimp only at g;rw[B,Int.add_zero]at g;rw[Int.add_zero]at p;have x:bn L f ⟨Int.ofNat n,(L n).cnt+1,0,xG aC,os⟩=((doneF ⟨jo L ⟨Int.ofNat n,(L n).cnt+1,0,xG aC,os⟩,f,Int.ofNat n,xG aC,0,0,0,[]⟩ os).1.L,(doneF ⟨jo L ⟨Int.ofNat n,(L n).cnt+1,0,xG aC,os⟩,f,Int.ofNat n,xG aC,0,0,0,[]⟩ os).1.fe,⟨0,(doneF ⟨jo L ⟨Int.ofNat n,(L n).cnt+1,0,xG aC,os⟩,f,Int.ofNat n,xG aC,0,0,0,[]⟩ os).1.done,(doneF ⟨jo L ⟨Int.ofNat n,(L n).cnt+1,0,xG aC,os⟩,f,Int.ofNat n,xG aC,0,0,0,[]⟩ os).1.paid,(doneF ⟨jo L ⟨Int.ofNat n,(L n).cnt+1,0,xG aC,os⟩,f,Int.ofNat n,xG aC,0,0,0,[]⟩ os).1.Ze,(doneF ⟨jo L ⟨Int.ofNat n,(L n).cnt+1,0,xG aC,os⟩,f,Int.ofNat n,xG aC,0,0,0,[]⟩ os).1.made⟩):=by unfold bn;rw[if_pos q];dsimp only;rw[Int.add_zero,if_pos p]
     rw[x]at r a g;dsimp only at r a g;generalize doneF ⟨jo L ⟨Int.ofNat n,(L n).cnt+1,0,xG aC,os⟩,f,Int.ofNat n,xG aC,0,0,0,[]⟩ os=z at r a g;have⟨⟨La,fa,R,O,M,Q,P,K⟩,N⟩:=z;dsimp only at r a g;have E:=uY (f:=fa) (f':=fa) (λi _=>sQ.rfl' (La i)) a.oks;rw[wS,zj rfl]at E;exact aeY h y u F r rfl rfl g E
    .exact ae5 h y u F r m
 .exact aeX h od
end topParts
end Go.Proofs.YtnamdihclpbdfabGreat
namespace Go.Proofs.YtnamdihclpbdfabGreat.topParts
set_option linter.all false
open Go.Proofs.Tryz
set_option maxRecDepth 100000
set_option maxHeartbeats 40000000
open Go.ChangeShapes Go.WideShapes Go.ChangeAt Go.RowKit
open Pe (fI gm dU iZ)
def own:ownKnob prog.godebug=none:=oA
def laidOut:laidOutB prog:=oA
section
variable {H:Type}{enc:TypeId×cm->H}{W:cg}
def aeb{r:Reach}{e:Nat}{v:cm}{d:DataW H}{p:List MemPlace}(s:Value.okWide prog W r e 39 v)(m:Rows.uptoBulk d<=2000000)(h:DataW.Trod enc prog W 0 (λ_=>true) true 39 v d p):∃b:Bt,(∀o∈b.ops,Ch o)/\gm (λ_=>none) (λ_=>True) W (btA b) v:=by
 obtain⟨cs,rfl,q⟩:=okWide_struct underlying39 s;have⟨a,c⟩:=h;have⟨cs⟩:=cs;simp only[Value.cells]at c;have⟨b,l,n⟩:=Ug a cs d p m c;refine⟨b,l,_,rfl,?_⟩
 match cs,n with
 | [u1,u2,u3,u4,u5],⟨f,g,i,j,k,_⟩=>exact⟨f,g,i,j,k,trivial⟩
end
def PY{w w':cg}(h:cq w w' none):Below w.heap.size w w':=⟨h.os,h.tape,h.output,h.size,λk a=>h.block k a oe⟩
def contract(H:Type)(enc:TypeId×cm->H)(W:cg)(d:Nat)(args:Array cm)(ds y:List (DataW H))(a:List MemPlace)
 (hval:∀(j:Nat) t v,f6.params[j]?=some t->args[j]?=some v->Value.okWide prog W .any d t v)
 (hW:DataW.Whole enc prog f6.params.toList Rows.topPartsSpec.vars false W args.toList ds y a) (hk:Rows.uptoSmall H (ds++y)) :
 Calls prog 6 args W λe w=>∃v,e =.returned v/\Rows.topPartsSpec.post enc prog f6 false true false false W args v w:=by
 have c:=hW;obtain⟨p,q,hA0,G,rfl,K,M⟩:=hW;have B:DataW.TrodAll enc prog W 0 (λ_=>true) true f6.params.toList args.toList ds p:=hA0;rw[params6]at B hval;obtain⟨s,R,d0,D,p0,T,l,rfl,rfl,z,P⟩:=trodAll_cons B;obtain⟨u,S,d1,E,C,U,i,rfl,rfl,A,Q⟩:=trodAll_cons P;obtain⟨rfl,rfl,rfl⟩:=trodAll_nil Q;obtain rfl:args=#[s,u]:=by cases args;simp_all
 obtain⟨rfl,rfl⟩:=trodVars_none G;have I:=qc4 hk;simp only[qb0,Rows.uptoBulkAll]at I;have⟨bs,n,N⟩:=nS od z (hval 0 22 s rfl rfl);have⟨b,m,o⟩:=aeb (hval 1 39 u rfl rfl) od A;clear hA0;simp only[qb0]at c;have f:∀x∈p0,x.block<W.heap.size:=λx r=>c.lt x (by simp[r]);have g:∀x∈C,x.block<W.heap.size:=λx r=>c.lt x (by simp[r]);have F:=(xY n m).runN rfl (λ_=>True) W [s,u] ⟨N,o,trivial⟩;refine F.mono λe w ⟨L,v,J,O⟩=>?_;obtain rfl:=Pe.bW O;subst J;have k:=PY L;exact⟨_,rfl,_,_,_,[],p0++(C++[]),[],c,trodAll_cons_mk (shut_bool underlying4 _) ka3,trodAll_cons_mk (Below.trod laidOut oA (qc4 oA) z k f) (trodAll_cons_mk (Below.trod laidOut oA (qc4 oA) A k g) ka3),rfl,k.frame _,λh=>by cases h⟩
def lifted(os:Os)(a:os.Started)(H:Type)(enc:TypeId×cm->H)(F:Stop.Interp) :
 ReturnsInHanded {} checked os 6 .any ((Rows.OpenSpec.upto Rows.topPartsSpec).pre6 enc prog f6 Rows.topPartsUptoRow.domain false) (((Rows.OpenSpec.upto Rows.topPartsSpec).at F).post enc prog f6 false true false false):=by
 refine jg4 (C:=checked) (s:=Rows.OpenSpec.upto Rows.topPartsSpec) (k:=Rows.uptoSmall) rfl own a oA func6
  (OpenSpec.witness (enc:=enc) (C:=checked) (s:=Rows.OpenSpec.upto Rows.topPartsSpec) (k:=Rows.uptoSmall) rfl false ⟨#[],#[.n0,.agg #[.i 0,.i 0,.i 0,.i 0,.n0]],[]⟩ 8 oA oA oA
   (x:=([.nil,.agg [.lit (.int .i64 0),.lit (.int .i64 0),.lit (.int .i64 0),.lit (.int .i64 0),.nil]],[],[])) oA rfl oA) ?_
 intro W d c f gs b e hW _ g _;exact contract H enc W d c f gs b e hW g
def over:Rows.topPartsUptoRow.holds Tryz.pinned (Rows.OpenSpec.upto Rows.topPartsSpec) :=
 jg5 6 f6 rfl rfl rfl rfl rfl rfl rfl ⟨rfl,rfl,rfl,rfl,rfl⟩ rfl rfl rfl rfl rfl oA func6 oA
  (qc4 oA) oR
  (λos a H enc _ F=>lifted os a H enc F)
end Go.Proofs.YtnamdihclpbdfabGreat.topParts
namespace Go.Proofs.YtnamdihclpbdfabGreat
set_option linter.all false
open Go.Proofs.Tryz
set_option maxRecDepth 100000
set_option maxHeartbeats 40000000
theorem topParts_holds:Rows.TopPartsUptoSaid:=topParts.over
#print axioms topParts_holds
