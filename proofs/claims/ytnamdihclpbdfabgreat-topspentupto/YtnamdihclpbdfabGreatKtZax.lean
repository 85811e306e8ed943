/- For every list of batches (and, in TopParts, every batch) whose reading holds at most 1048576 values and letters, TopMade, TopSpent, TopRuns and TopParts return true and leave their arguments as they were. Condition: that bound on the reading. -/
import Derived.Test.YtnamdihclpbdfabGreatKtZav
import Derived.OpenShut
import Derived.JoinedCond
namespace Go.Proofs.YtnamdihclpbdfabGreat
set_option linter.all false
open Go.Proofs.Tryz
set_option maxRecDepth 100000
set_option maxHeartbeats 4000000
variable {s:Int}{i:Nat}
def Lo (s:Int) (n:Int) (L L':Lg):Prop:=∀k:Nat,k<4->(s≠(k:Int)->(L k).ji<=(L' k).ji)/\(L k).ji - n<=(L' k).ji
def Lo.refl(s:Int)(L:Lg):Lo s 0 L L:=λk _=>⟨λ_=>qd2 _,od⟩
def Lo.trans{a b:Int}{L M N:Lg}(h:Lo s a L M)(k:Lo s b M N):Lo s (a+b) L N:=λi c=>by have⟨e,g⟩:=h i c;have⟨f,j⟩:=k i c;exact⟨λd=>by have:=e d;have:=f d;omega,od⟩
def Lo.of{L M:Lg}(h:∀k:Nat,k<4->(L k).ji=(M k).ji):Lo s 0 L M:=λi a=>by have:=h i a;exact⟨λ_=>od,od⟩
def abo{L:Lg}{j:Nat}{n:Int}(c:0<=n)(e:s=(i:Int)\/4<=i):Lo s (if 4<=i then 0 else n) L (mV L i j n):=λk d=>by
 unfold mV gY;dsimp only
 by_cases b:k=j
 .subst b;rw[if_pos rfl];dsimp only
  by_cases a:k=i
  .subst a;rw[if_pos rfl];dsimp only;exact⟨λ_=>od,vy⟩
  .rw[if_neg a];exact⟨λ_=>od,vy⟩
 .rw[if_neg b]
  by_cases a:k=i
  .subst a;rw[if_pos rfl];dsimp only;rw[oa];exact⟨λh=>absurd od h,od⟩
  .rw[if_neg a];exact⟨λ_=>qd2 _,vy⟩
def Fr4 (s:Int):Rq->Prop
 | .op f _=>f=s
 | .told f _=>4<=f
def cst:Rq->Int
 | .op _ o=>o.lG
 | .told _ _=>0
def aey{W:Wk}{en:En}{x:Va} : Lo s 0 W.L (pK W i en x).1.L/\(4<=i->∀r∈(pK W i en x).2.1,Fr4 s r/\cst r=0):=by
 have h:Lo s 0 W.L W.L:=.refl s _;unfold pK Kk;split
 .split
  .split
   .refine⟨Lo.of λk _=>?_,λb r a=>?_⟩
    .unfold NY;dsimp only;split
     .rename_i e;subst e;rfl
     .rfl
    .obtain⟨v,_,rfl⟩:=kl.1 a;exact⟨(by omega:(4:Int)<=(i:Int)),rfl⟩
   .exact⟨h,λ_ r a=>by cases a⟩
  .exact⟨h,λ_ r a=>by cases a⟩
 .exact⟨h,λ_ r a=>by cases a⟩
def ad9{W:Wk}{r:Rq}(hW:WI W)(F:0<=s/\s<4)(c:Fr4 s r)(b:(mW W r).2.2=0):Lo s (cst r) W.L (mW W r).1.L/\(∀q∈(mW W r).2.1,Fr4 s q/\cst q=0)/\(0<=r.lG/\r.lG<=4000000):=by
 have m:=hW.gl.move (fr:=r.fr) (dn:=r.dst) (n:=r.lG);unfold mW at b|-;split at b
 .rename_i h0;rw[if_pos h0];have⟨C,D,d,p,l⟩:=Gh h0;have w:((moveF W.L r.fr r.dst r.lG).1 r.dst.toNat).is≠0:=by rw[l,Qa];exact p
  have E:=hW.gl.EX.shares r.fr.toNat od;have A:r.lG<=(W.L r.fr.toNat).ji:=by
   unfold moveF at h0;split at h0
   .split at h0
    .split at h0
     .cases h0
     .rename_i h;omega
    .cases h0
   .cases h0
  have k:Lo s (cst r) W.L (moveF W.L r.fr r.dst r.lG).1:=by
   rw[l]
   cases r with
   | op f o =>
    have c:f=s:=c;have:=abo (L:=W.L) (i:=f.toNat) (j:=o.dst.toNat) (n:=o.lG) (s:=s) d.1 (.inl od);rw[oa]at this;exact this
   | told f v =>
    have c:4<=f:=c;have:=abo (L:=W.L) (i:=f.toNat) (j:=v.a.toNat) (n:=v.n) (s:=s) d.1 (.inr od);rw[oc]at this;exact this
  refine And.imp_right (λh=>⟨h,d.1,od⟩) ?_;have z:r.dst.toNat<12:=od
  generalize (moveF W.L r.fr r.dst r.lG).1=L2 at m w k b|-;unfold Cr at b|-;dsimp only at b|-;split at b
  .cases b
  .rename_i x G;split at b
   .rename_i e;rw[if_pos e];exact⟨k,λq B=>by cases B⟩
   .rename_i e;rw[if_neg e];have y:=m.ac _ z;have g:4<=r.dst.toNat:=by have:=y.per;omega
    have⟨t,u⟩:=aey (W:={ W with L:=L2 }) (i:=r.dst.toNat) (en:=⟨r.dst.toNat,r.fr,r.lG,(L2 r.dst.toNat).ji⟩) (x:=x) (s:=s);have:=k.trans t;rw[Int.add_zero]at this;exact⟨this,u g⟩
 .rename_i h0;exact absurd b h0
def aeH{W:Wk}{o:lI}(hW:WI W)(x:0<=W.src/\W.src<4)(a:(wy W o).2=0):Lo W.src o.lG W.L (wy W o).1.L/\(0<=o.lG/\o.lG<=4000000):=by
 unfold wy at a|-
 cases f:ku o with
 | error e=>rw[f]at a;exact absurd a (Xw f)
 | ok A =>
  rw[f]at a;dsimp only at a|-;split at a
  .cases a
  .rename_i d;rw[if_neg d];have c:=SF (L:=W.L);have g:ib W.L 12 0<12:=by omega
   have h0:=Im 12 0 rfl g;generalize ib W.L 12 0=i at g h0 a|-;have v:4<=i:=by have:=(hW.gl.ac i g).per;omega
   unfold aaJ at a|-;split at a
   .rename_i b;rw[if_pos b];have⟨r,t,l,u,m⟩:=Gh b;have p:Lo W.src 0 W.L (vU W.L i A):=Lo.of λk hk=>by unfold vU;rw[oa]
    have q:Lo W.src o.lG (vU W.L i A) (moveF (vU W.L i A) W.src i o.lG).1:=by rw[m];have:=abo (L:=vU W.L i A) (i:=W.src.toNat) (j:=(i:Int).toNat) (n:=o.lG) (s:=W.src) l.1 (.inl od);rw[oa]at this;exact this
    have:=p.trans q;rw[Int.zero_add]at this;refine⟨this,l.1,?_⟩;have w:=hW.gl.EX.shares W.src.toNat od;have c:o.lG<=(vU W.L i A W.src.toNat).ji:=by
     unfold moveF at b;split at b
     .split at b
      .split at b
       .cases b
       .rename_i h;omega
      .cases b
     .cases b
    unfold vU at c;rw[oa]at c;omega
   .rename_i b;exact absurd a b
def ae3{W:Wk}{r:Rq}(hW:WI W)(d:0<=W.src/\W.src<4)(e:Fr4 W.src r)(a:(yS W r).2.2=0):Lo W.src (cst r) W.L (yS W r).1.L/\(∀q∈(yS W r).2.1,Fr4 W.src q/\cst q=0)/\0<=cst r/\cst r<=4000000:=by
 cases r with
 | told f v =>
  have⟨b,c,j⟩:=ad9 hW d e a;exact⟨b,c,qd2 0,by show (0:Int)<=4000000;decide⟩
 | op f o =>
  simp only[yS]at a|-;split at a
  .rename_i b;rw[if_pos b];exact ad9 hW d e a
  .rename_i b;rw[if_neg b];split at a
   .rename_i c;rw[if_pos c];have⟨h,i⟩:=aeH hW d a;exact⟨h,(λq g=>by cases g),i⟩
   .cases a
def sum_zero:∀{l:List Rq},(∀q∈l,cst q=0)->(l.map cst).sum=0
 | [],_=>rfl
 | q::l,h=>by rw[qb2,je6,h q oe,sum_zero λx a=>h x (by simp[a])];rfl
def row_lo:∀(N:Nat) (W:Wk) (rs:List Rq),PW W rs->(24 - W.done).toNat+2<=N->(0<=W.src/\W.src<4)->(∀r∈rs,Fr4 W.src r)->(rowF N W rs).2=0->Lo W.src (rs.map cst).sum W.L (rowF N W rs).1.L/\∀r∈rs,0<=cst r/\cst r<=4000000
 | 0,W,rs,b,h,_,_,_=>od
 | N+1,W,[],b,_,_,_,_=>⟨by simpa[rowF]using Lo.refl W.src W.L,λr p=>by cases p⟩
 | N+1,W,r::rs,b,u,k,j,c=>by
  have h:=F9 b.1.toWI (b.2 _ (ja3 ..));have o:=@Way.next _ way W r rs b
  have⟨g,w,x,y⟩:=h.same;have v:=b.1.done;have n:=ae3 b.1.toWI k (j r oe);simp only[rowF]at c|-;split at c
  .cases c
  .rename_i e;rw[if_neg e];split at c
   .rename_i d;rw[if_pos d];have⟨l,i,m⟩:=n d;have⟨f,t⟩:=row_lo N _ _ (o e d) ON (by dsimp only;rw[g];exact k) (λq a=>by
     dsimp only;rw[g];rcases ka.1 a with a|a
     .exact j q (by simp[a])
     .exact (i q a).1) c
    dsimp only at f;rw[show Lo ((yS W r).1.src)=Lo W.src by rw[g]]at f;have s:=sum_zero λq a=>(i q a).2;rw[ux,List.sum_append,s,Int.add_zero]at f;refine⟨?_,λq a=>?_⟩
    .simp only[qb2,je6];exact l.trans f
    .rcases ke.1 a with rfl|a
     .exact m
     .exact t q (by simp[a])
   .rename_i d;exact absurd c d
def all_lo:∀(os:List lI) (W:Wk),QW W os->(0<=W.src/\W.src<4)->(doneF W os).2=0->Lo W.src (os.map lI.lG).sum W.L (doneF W os).1.L/\∀o∈os,0<=o.lG/\o.lG<=4000000
 | [],W,_,_,_=>⟨by simpa[doneF]using Lo.refl W.src W.L,λo k=>by cases k⟩
 | o::os,W,a,h,e=>by
  have g:PW W [.op W.src o]:=⟨a.1,λr d=>by rw[qu]at d;subst d;exact a.2 o oe⟩;have p:=a.1.done;have j:=row_lo 26 W _ g od h (λr d=>by rw[qu]at d;subst d;rfl);have f:=(row_ok 26 W _ g od).same.1;simp only[doneF]at e|-;split at e
  .rename_i b;rw[if_pos b];have⟨m,n⟩:=j b;have⟨i,l⟩:=all_lo os _ (wayC.next a b) (by rw[f];exact h) e;rw[show Lo ((rowF 26 W [.op W.src o]).1.src)=Lo W.src by rw[f]]at i;have c:=n _ (qu.2 rfl);refine⟨?_,λq a=>?_⟩
   .have:=m.trans i;simpa[cst]using this
   .rcases ke.1 a with rfl|a
    .exact c
    .exact l q a
  .rename_i b;exact absurd e b
open Pe
namespace topSpent
set_option maxRecDepth 100000
set_option maxHeartbeats 4000000
abbrev sD (L:Lg) (f:Int) (L':Lg) (f':Int) (b:Bt) (r:Rc):Prop:=Hd ⟨13,[lC L f,lC L' f',btA b,.agg (Me r)],aQ true⟩
abbrev spL (i:Nat) (S:St) (ex:Nat) (q:St):Prop:=vO prog f13.ntmps ⟨kC f13 i,S,ex,q⟩
def spX (L:Lg) (f:Int) (L':Lg) (f':Int) (b:Bt) (r:Rc):St:=[((0,4),.of (.one (.p 4 0))),((0,5),.of (.one (.p 5 0))),((0,6),.of (.one (.p 6 0))),((0,7),.of (.one (.p 7 0)))]++(oC 4 0 (Tp L f)++(oC 5 0 (Tp L' f')++(oC 6 0 ((wo b).map .d)++oC 7 0 (Me r))))
def spS (L:Lg) (f:Int) (L':Lg) (f':Int) (b:Bt) (r:Rc) (j:Nat):St:=((0,13),.of (jA j))::spX L f L' f' b r
def aeu{L L':Lg}{f f':Int}{b:Bt}{r:Rc}(h:∀k:Nat,k<4->b.src≠(k:Int)->(L k).ji<=(L' k).ji):∀(d j:Nat),j+d=4->spL 0 (spS L f L' f' b r j) 2 (spX L f L' f' b r)
 | 0,j,e=>by
  obtain rfl:j=4:=od
  have⟨s,c,eD,aC,os⟩:=b;have⟨e,d,g,m,p⟩:=r;exact xQ (e:=1) [] [] al0
 | d+1,j,e=>by
  have n:=aeu (f:=f) (f':=f') (r:=r) h d (j+1) od;have i:=h j od;clear h;have⟨s,c,eD,aC,os⟩:=b;have⟨e,d,g,m,p⟩:=r;dsimp only at i
  by_cases a:s=Int.ofNat j
  .have l:jJ (!decide (Int.ofNat j=s)) false:=eT (by simp[a]);clear i a;rcases four (show j<4 by omega)with rfl|rfl|rfl|rfl
   all_goals exact LG [(19,bA false)] [] n (al l al0)
  .have l:jJ (!decide (Int.ofNat j=s)) true:=eT (by simp;intro e;exact a (by rw[<-e];rfl));have o:jJ (decide ((L' j).ji<(L j).ji)) false:=eT (xb (by have:=i a;omega));clear i a;rcases four (show j<4 by omega)with rfl|rfl|rfl|rfl
   all_goals exact LG [(19,bA true),(31,bA false)] [] n (al l (al o al0))
def saS (L:Lg) (f:Int) (L':Lg) (f':Int) (b:Bt) (r:Rc) (a:Int) (j:Nat):St:=[((0,10),.of (iA a)),((0,40),.of (osA b.ops)),((0,41),lW (b.ops.map wO).length),((0,42),.of (jA j))]++spX L f L' f' b r
def saQ (L:Lg) (f:Int) (L':Lg) (f':Int) (b:Bt) (r:Rc) (a:Int):St:=((0,10),.of (iA a))::spX L f L' f' b r
def aeN{L L':Lg}{f f':Int}{b:Bt}{r:Rc}(x:0<=b.eD/\b.eD<=4000000)(t:b.ops.length<=8)(h:∀o∈b.ops,0<=o.lG/\o.lG<=4000000):∀(u:List lI) (j:Nat) (a:Int),j<=b.ops.length->b.ops.drop j=u->(0<=a/\a<=4000000+4000000*j)->spL 1 (saS L f L' f' b r a j) 4 (saQ L f L' f' b r (a+(u.map lI.lG).sum))
 | [],j,a,y,l,v=>by
  have Y:b.ops.length<=j:=by have:=congrArg List.length l;simp at this;omega
  have p:mD (aQ (decide (Int.ofNat j<((b.ops.map wO).length:Int)))) (bA false):=wH oY;have⟨s,c,W,E,os⟩:=b;have⟨e,d,g,m,md⟩:=r;rw[show a+(([]:List lI).map lI.lG).sum=a by simp];exact xQ (e:=3) [(43,bA false)] [] (al p al0)
 | o::u,j,a,y,l,v=>by have⟨i,n,w⟩:=kX l;have X:=h o (jz n);have ih:=aeN (L:=L) (f:=f) (L':=L') (f':=f') (r:=r) x t h u (j+1) (a+o.lG) i w (by simp only[je1];omega);have p:mD (aQ (decide (Int.ofNat j<((b.ops.map wO).length:Int)))) (bA true):=is_lt oY;have Z:=Wj n;have i3:mD (lW (IntKind.i64.wrap (a+o.lG))) (iA (a+o.lG)):=yY (zF rfl od od);have i4:mD (lW (IntKind.i64.wrap (Int.ofNat j+1))) (jA (j+1)):=yY (zF oe ot ot);rw[show a+((o::u).map lI.lG).sum=a+o.lG+(u.map lI.lG).sum by simp;omega];clear X h x t i n w l y v;have⟨s,c,W,E,os⟩:=b;have⟨e,d,g,m,md⟩:=r;have⟨k,V,q,⟨z,A,B,C,D⟩,⟨F,G,H,I,J⟩,⟨K,M,N,O,P⟩,⟨Q,R,S,T,U⟩⟩:=o;exact LG [(43,bA true),(44,.one (.e (wO ⟨k,V,q,.nd z A B C D,.nd F G H I J,.nd K M N O P,.nd Q R S T U⟩) 0)),(49,iA (a+q)),(50,jA (j+1))] [] ih (al p (al Z (al i3 (al i4 al0))))
def ac3{L L':Lg}{f f':Int}{b:Bt}{r:Rc}(h:∀k:Nat,k<4->b.src≠(k:Int)->(L k).ji<=(L' k).ji)(a:r.code≠0):sD L f L' f' b r:=by have n:=aeu (f:=f) (f':=f') (r:=r) h 4 0 rfl;have o:jJ (!decide (r.code=0)) true:=eT (by simp[a]);clear h a;have⟨s,c,l,j,u⟩:=b;have⟨e,d,g,m,t⟩:=r;have p:=wI (S:=spS L f L' f' ⟨s,c,l,j,u⟩ ⟨e,d,g,m,t⟩ 0) (q:=kC f13 0=kC f13 0) rfl (ps:=[]) al0;exact Ce func13 [(36,bA true)] [_] (λx i=>by rw[qu]at i;subst i;exact n) [] (jX p (al o al0))
def ac4{L L':Lg}{f f':Int}{n:Nat}{c eD aC d g m:Int}{os:List lI}{md:List Int}(hn:n<4)(h:∀k:Nat,k<4->(Int.ofNat n:Int)≠(k:Int)->(L k).ji<=(L' k).ji)(p:0<=eD/\eD<=4000000)(l:os.length<=8)(hb:∀o∈os,0<=o.lG/\o.lG<=4000000)(s:0<=(L n).ji/\(L n).ji<=4000000)(t:0<=(L' n).ji/\(L' n).ji<=4000000)
 (hd:(L n).ji - (L' n).ji<=eD+(os.map lI.lG).sum):sD L f L' f' ⟨Int.ofNat n,c,eD,aC,os⟩ ⟨0,d,g,m,md⟩:=by
 have u:=aeu (f:=f) (f':=f') (b:=⟨Int.ofNat n,c,eD,aC,os⟩) (r:=⟨0,d,g,m,md⟩) h 4 0 rfl;have v:=aeN (L:=L) (f:=f) (L':=L') (f':=f') (b:=⟨Int.ofNat n,c,eD,aC,os⟩) (r:=⟨0,d,g,m,md⟩) p l hb os 0 eD (yb _) rfl od;have⟨a,i⟩:∃a,a=(L n).ji - (L' n).ji:=⟨_,rfl⟩;have w:mD (lW (IntKind.i64.wrap ((L n).ji - (L' n).ji))) (iA a):=yY vf;have y:jJ (decide (a<=eD+(os.map lI.lG).sum)) true:=eT (zj od);clear h p l hb s t hd i;have z:=wI (S:=spS L f L' f' ⟨Int.ofNat n,c,eD,aC,os⟩ ⟨0,d,g,m,md⟩ 0) (q:=kC f13 0=kC f13 0) rfl (ps:=[]) al0;have j:=wI (S:=saS L f L' f' ⟨Int.ofNat n,c,eD,aC,os⟩ ⟨0,d,g,m,md⟩ eD 0) (q:=kC f13 1=kC f13 1) rfl (ps:=[]) al0;rcases four hn with rfl|rfl|rfl|rfl
 all_goals exact Ce func13 [(63,iA a),(65,bA true)] [_,_] (λx e=>by rcases ke.1 e with rfl|e;exact u;rw[qu]at e;subst e;exact v) [] (jX z (jX j (al w (al y al0))))
abbrev yM (S:St) (ex:Nat) (q:St):Prop:=vO prog f8.ntmps ⟨gF f8,S,ex,q⟩
def QG (L:Lg) (f:Int):St:=oC 4 0 ((ZQ 0).map .d)++oC 6 0 (Tp L f)
def vF (bs:List Bt) (L:Lg) (f:Int) (i:Nat):St:=[((0,0),.of (vT bs)),((0,1),.of (ZP 13)),((0,4),.of (.one (.p 4 0))),((0,6),.of (.one (.p 6 0))),((0,7),.of (jA i))]++QG L f
def IA (L:Lg) (f:Int):St:=[((0,4),.of (.one (.p 4 0))),((0,6),.of (.one (.p 6 0)))]++QG L f
section
variable {bs:List Bt}{L L':Lg}{f f':Int}{i:Nat}{b:Bt}{r:Rc}{ex:Nat}{q:St}
def jN(hi:bs.length<=i):yM (vF bs L f i) 2 (IA L f) :=
 xQ (e:=1) [(18,bA false)] [] (al (show mD (aQ (decide (Int.ofNat i<((bs.map wo).length:Int)))) (bA false) from wH oY) al0)
def mZ(hi:i<bs.length)(h:40<=i):yM (vF bs L f i) 2 (IA L f) :=
 xQ (e:=1) [(18,bA true),(21,bA false)] [] (al (show mD (aQ (decide (Int.ofNat i<((bs.map wo).length:Int)))) (bA true) from is_lt oY) (al (show mD (aQ (decide (Int.ofNat i<40))) (bA false) from wH ot) al0))
def ni(hi:bs[i]?=some b)(h:i<40)(a:Mg L f (rM b) L' f' (Me r))(j:sD L f L' f' (rM b) r)(hn:yM (vF bs L' f' (i+1)) ex q):yM (vF bs L f i) ex q:=by
 have o:mD (aQ (decide (Int.ofNat i<((bs.map wo).length:Int)))) (bA true):=is_lt (by have:=(qS.1 hi).1;rw[xj];simp;omega);have p:mD (aQ (decide (Int.ofNat i<40))) (bA true):=is_lt ot;have t:=Cm hi;have u:mD (lW (IntKind.i64.wrap (Int.ofNat i+1))) (jA (i+1)):=yY (zF oe ot ot);have⟨s,c,n,l,v⟩:=b;have⟨e,d,g,m,w⟩:=r;unfold rM at a j
 by_cases k:3000<l
 .rw[if_pos k]at a j;exact LG [(18,bA true),(21,bA true),(27,.one (.e (wo ⟨s,c,n,l,v⟩) 0)),(31,bA true),(24,jA (i+1))] [⟨_,a⟩,⟨_,j⟩] hn (al o (al p (al t (al (is_lt k) (al u al0)))))
 .rw[if_neg k]at a j;exact LG [(18,bA true),(21,bA true),(27,.one (.e (wo ⟨s,c,n,l,v⟩) 0)),(31,bA false),(24,jA (i+1))] [⟨_,a⟩,⟨_,j⟩] hn (al o (al p (al t (al (wH k) (al u al0)))))
end
def oH{bs:List Bt}(hb:su bs)(hk:∀{L:Lg}{f:Int}{b:Bt},GL L f->pg b->sD L f (bn L f b).1 (bn L f b).2.1 b (bn L f b).2.2):∀(n i:Nat) (L:Lg) (f:Int),i+n=40->GL L f->yM (vF bs L f i) 2 (IA (playF n (bs.drop i) L f).1 (playF n (bs.drop i) L f).2)
 | 0,i,L,f,k,c=>by
  simp only[playF]
  by_cases h:i<bs.length
  .exact mZ h od
  .exact jN od
 | n+1,i,L,f,k,c=>by
  cases g:bs.drop i with
  | nil =>
   have : bs.length<=i:=by have:=congrArg List.length g;simp at this;omega
   simp only[playF];exact jN this
  | cons b m =>
   have⟨l,a,e⟩:=kX g;have d:=hb.cap (jz a);have j:=oH hb hk n (i+1) _ _ od (l6 c d);rw[e]at j;simp only[playF];exact ni a od (BV c d) (hk c d) j
def qR{bs:List Bt}(hb:su bs)(hk:∀{L:Lg}{f:Int}{b:Bt},GL L f->pg b->sD L f (bn L f b).1 (bn L f b).2.1 b (bn L f b).2.2):Hd ⟨8,[vT bs,ZP 13],.rz [lC (playF 40 bs newL 0).1 (playF 40 bs newL 0).2,bA true]⟩:=by have a:=oH hb hk 40 0 newL 0 rfl new_GL;rw[qg1]at a;have e:=H_new;have d:=H_alive;generalize playF 40 bs newL 0=z at a|-;have⟨L2,h⟩:=z;have g:=wI (S:=vF bs newL 0 0) (q:=gF f8=gF f8) rfl (ps:=[]) al0;exact Ce func8 [] [_] (λx c=>by rw[qu]at c;subst c;exact a) [⟨_,e⟩,⟨_,d⟩] g
def look{L:Lg}{f:Int}{b:Bt}(h:GL L f)(hb:pg b):sD L f (bn L f b).1 (bn L f b).2.1 b (bn L f b).2.2:=by
 have j:=l6 h hb;revert j;unfold bn
 by_cases g:mf L f b=0
 .rw[if_pos g];have x:=qF h hb g;have l:=h.Br g;have⟨g1,g2,r,t,u,v⟩:=kM g;have w:=all_lo b.ops _ x ⟨l.2.2,ON⟩;have d:=l.2.1
  by_cases i:(doneF ⟨jo L b,f+b.eD,b.src,b.aC,0,0,0,[]⟩ b.ops).2=0
  .rw[if_pos i];have⟨q,y⟩:=w i;generalize doneF ⟨jo L b,f+b.eD,b.src,b.aC,0,0,0,[]⟩ b.ops=z at q|-;intro j;have⟨s,c,B,A,C⟩:=b;dsimp only at *;obtain⟨n,rfl⟩:∃n:Nat,s=Int.ofNat n:=⟨s.toNat,ot⟩;simp only[Int.ofNat_eq_natCast,jg0]at l r v d;have o:=h.EX.shares n od;have p:=j.EX.shares n od;refine ac4 d (λk m a=>?_) ⟨t.1,od⟩ u.2 y o p ?_
   .have:=(q k m).1 a;unfold jo at this;dsimp only at this;rw[if_neg (λe=>a (by rw[e];simp))]at this;exact this
   .have:=(q n d).2;unfold jo at this;dsimp only at this;rw[if_pos oe]at this;dsimp only at this|-;omega
  .rw[if_neg i];intro _;exact ac3 (λk m a=>by unfold jo;dsimp only;rw[if_neg (λe=>a od)];exact qd2 _) i
 .rw[if_neg g];intro _;exact ac3 (λk m a=>qd2 _) g
def xY{bs:List Bt}(hb:su bs):Hd ⟨5,[vT bs],aQ true⟩:=by have a:=qR hb look;exact aF func5 [⟨_,a⟩]
end topSpent
end Go.Proofs.YtnamdihclpbdfabGreat
namespace Go.Proofs.YtnamdihclpbdfabGreat.topSpent
set_option linter.all false
open Go.Proofs.Tryz
set_option maxRecDepth 100000
set_option maxHeartbeats 4000000
open Go.ChangeShapes Go.WideShapes Go.ChangeAt Go.RowKit
open Pe (fI gm dU iZ)
def own:ownKnob prog.godebug=none:=oA
def laidOut:laidOutB prog:=oA
def PY{w w':cg}(h:cq w w' none):Below w.heap.size w w':=⟨h.os,h.tape,h.output,h.size,λk a=>h.block k a oe⟩
def contract(H:Type)(enc:TypeId×cm->H)(W:cg)(c:Nat)(args:Array cm)(ds l:List (DataW H))(a:List MemPlace)
 (hval:∀(j:Nat) t v,f5.params[j]?=some t->args[j]?=some v->Value.okWide prog W .any c t v)
 (hW:DataW.Whole enc prog f5.params.toList Rows.topSpentSpec.vars false W args.toList ds l a) (hk:Rows.uptoSmall H (ds++l)) :
 Calls prog 5 args W λe k=>∃v,e =.returned v/\Rows.topSpentSpec.post enc prog f5 false true false false W args v k:=by
 have b:=hW;obtain⟨p,q,hA0,w,rfl,A,C⟩:=hW;have n:DataW.TrodAll enc prog W 0 (λ_=>true) true f5.params.toList args.toList ds p:=hA0;rw[params5]at n hval;obtain⟨i,I,J,s,r,K,f,rfl,rfl,m,G⟩:=trodAll_cons n;obtain⟨rfl,rfl,rfl⟩:=trodAll_nil G;obtain rfl:args=#[i]:=by cases args;simp_all
 obtain⟨rfl,rfl⟩:=trodVars_none w;have y:=qc4 hk;simp only[qb0,Rows.uptoBulkAll]at y;have⟨bs,g,D⟩:=nS od m (hval 0 22 i rfl rfl);clear hA0;simp only[qb0]at b;have d:∀x∈r,x.block<W.heap.size:=λx F=>b.lt x (by simp[F]);have u:=(xY g).runN rfl (λ_=>True) W [i] ⟨D,trivial⟩;refine u.mono λe k ⟨B,v,z,E⟩=>?_;obtain rfl:=Pe.bW E;subst z;have o:=PY B;exact⟨_,rfl,_,_,_,[],r++[],[],b,trodAll_cons_mk (shut_bool underlying4 _) ka3,trodAll_cons_mk (Below.trod laidOut oA (qc4 oA) m o d) ka3,rfl,o.frame _,λh=>by cases h⟩
def lifted(os:Os)(a:os.Started)(H:Type)(enc:TypeId×cm->H)(F:Stop.Interp) :
 ReturnsInHanded {} checked os 5 .any ((Rows.OpenSpec.upto Rows.topSpentSpec).pre6 enc prog f5 Rows.topSpentUptoRow.domain false) (((Rows.OpenSpec.upto Rows.topSpentSpec).at F).post enc prog f5 false true false false):=by
 refine jg4 (C:=checked) (s:=Rows.OpenSpec.upto Rows.topSpentSpec) (k:=Rows.uptoSmall) rfl own a oA func5
  (OpenSpec.witness (enc:=enc) (C:=checked) (s:=Rows.OpenSpec.upto Rows.topSpentSpec) (k:=Rows.uptoSmall) rfl false ⟨#[],#[.n0],[]⟩ 8 oA oA oA
   (x:=([.nil],[],[])) oA rfl oA) ?_
 intro W d c f g b e hW _ h _;exact contract H enc W d c f g b e hW h
def over:Rows.topSpentUptoRow.holds Tryz.pinned (Rows.OpenSpec.upto Rows.topSpentSpec) :=
 jg5 5 f5 rfl rfl rfl rfl rfl rfl rfl ⟨rfl,rfl,rfl,rfl,rfl⟩ rfl rfl rfl rfl rfl oA func5 oA
  (qc4 oA) oR
  (λc a H b _ F=>lifted c a H b F)
end Go.Proofs.YtnamdihclpbdfabGreat.topSpent
namespace Go.Proofs.YtnamdihclpbdfabGreat
set_option linter.all false
open Go.Proofs.Tryz
set_option maxRecDepth 100000
set_option maxHeartbeats 4000000
theorem topSpent_holds:Rows.TopSpentUptoSaid:=topSpent.over
#print axioms topSpent_holds
