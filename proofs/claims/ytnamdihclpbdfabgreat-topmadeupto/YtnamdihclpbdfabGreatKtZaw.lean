/- For every list of batches (and, in TopParts, every batch) whose reading holds at most 1048576 values and letters, TopMade, TopSpent, TopRuns and TopParts return true and leave their arguments as they were. Condition: that bound on the reading. -/
import Derived.Test.YtnamdihclpbdfabGreatKtZav
import Derived.OpenShut
import Derived.JoinedCond
namespace Go.Proofs.YtnamdihclpbdfabGreat
set_option linter.all false
open Go.Proofs.Tryz
set_option maxRecDepth 100000
set_option maxHeartbeats 4000000
variable {i:Nat}
def zU (L0 L:Lg):Nat->Nat->List Int
 | 0,_=>[]
 | d+1,j=>if (L0 j).is=(L j).is then zU L0 L d (j+1)else (j:Int)::zU L0 L d (j+1)
def xE(L:Lg):∀d j,zU L L d j=[]
 | 0,_=>rfl
 | d+1,j=>by simp[zU,xE L d (j+1)]
def H8{L0 L M:Lg}(h:∀k,(M k).is=(L k).is):∀d j,zU L0 M d j=zU L0 L d j
 | 0,_=>rfl
 | d+1,j=>by simp[zU,H8 h d (j+1),h j]
def Oo{L0 a L:Lg}(h:∀k,(a k).is=(L0 k).is):∀d j,zU a L d j=zU L0 L d j
 | 0,_=>rfl
 | d+1,j=>by simp[zU,Oo h d (j+1),h j]
def C8{L0 L:Lg} : ∀d j,(∀k,j<=k->k<j+d->(L0 k).is=(L k).is)->zU L0 L d j=[]
 | 0,_,_=>rfl
 | d+1,j,h=>by rw[zU,if_pos (h j (jn _) od),C8 d (j+1) λk a b=>h k od od]
def VG{L0 L M:Lg}(hi:(L0 i).is≠(M i).is)(c:(L0 i).is=(L i).is)(b:∀k,k≠i->(M k).is=(L k).is)(a:∀k,i<k->k<12->(L0 k).is=(L k).is):∀d j,j<=i->i<j+d->j+d=12->zU L0 M d j=zU L0 L d j++[(i:Int)]
 | 0,j,f,g,_=>od
 | d+1,j,f,g,n=>by
  by_cases e:j=i
  .subst e;rw[zU,if_neg hi,zU,if_pos c];rw[C8 d (j+1) (λk l m=>by rw[b k od];exact a k od od),C8 d (j+1) (λk l m=>a k od od)];rfl
  .have h:=VG hi c b a d (j+1) od od od;rw[zU,zU,b j e,h];split<;>rfl
structure Mad (L0:Lg) (W:Wk):Prop where
 eq:W.made=zU L0 W.L 12 0
 at_:∀k,k<12->(W.L k).is≠(L0 k).is->(L0 k).is=0/\(W.L k).is=2/\∀j,j<=k->(W.L j).is≠0
def Mad.same{L0:Lg}{W b:Wk}(h:Mad L0 W)(hm:b.made=W.made)(c:∀k,(b.L k).is=(W.L k).is):Mad L0 b :=
 ⟨by rw[hm,h.eq,H8 c],λk i a=>by rw[c]at a|-;have⟨d,e,f⟩:=h.at_ k i a;exact⟨d,e,λj g=>by rw[c];exact f j g⟩⟩
def CR{L:Lg}{fr dn n:Int}(k:Nat):((moveF L fr dn n).1 k).is=(L k).is:=by
 unfold moveF
 repeat' split
 all_goals first|rfl|exact Qa k
def aex{W:Wk}{en:En}{x:Va}(k:Nat):((pK W i en x).1.L k).is=(W.L k).is:=by
 unfold pK Kk
 repeat' split
 all_goals first|rfl|(unfold NY;dsimp only;split<;>first|rfl|(rename_i e;subst e;rfl))
def CU{W:Wk}{r:Rq} : (mW W r).1.made=W.made/\∀k,((mW W r).1.L k).is=(W.L k).is:=by
 unfold mW;split
 .unfold Cr;split
  .exact⟨rfl,λk=>CR k⟩
  .split
   .exact⟨rfl,λk=>CR k⟩
   .exact⟨R6,λk=>(aex k).trans (CR k)⟩
 .exact⟨rfl,λ_=>rfl⟩
def adL{L:Lg} : ∀n j,j+n=12->∀k,j<=k->k<ib L n j->(L k).is≠0
 | 0,j,h,k,b,a=>by simp only[ib]at a;omega
 | n+1,j,h,k,b,a=>by
  simp only[ib]at a;split at a
  .omega
  .rename_i c
   by_cases e:k=j
   .rw[e];exact c
   .exact adL n (j+1) od k od a
def aeh{o:lI}{A:Ac}(h:ku o =.ok A):A.is=2:=by
 unfold ku at h;split at h
 .split at h
  .split at h
   .split at h
    .split at h<;>cases h;rfl
    .cases h
   .cases h
  .cases h
 .cases h
def aen{L0:Lg}{W:Wk}{o:lI}(h:Mad L0 W)(b:(wy W o).2=0):Mad L0 (wy W o).1:=by
 unfold wy at b|-
 cases d:ku o with
 | error e=>rw[d]at b;exact absurd b (Xw d)
 | ok A =>
  rw[d]at b;dsimp only at b|-;split at b
  .cases b
  .rename_i f;rw[if_neg f];have t:=SF (L:=W.L);have g:ib W.L 12 0<12:=by omega
   have h0:=Im 12 0 rfl g;have m:=λk hk=>adL (L:=W.L) 12 0 rfl k (yb k) hk;generalize ib W.L 12 0=i at g h0 m b|-;have q:=aeh d;unfold aaJ at b|-;split at b
   .rename_i l;rw[if_pos l];have c:∀k,((moveF (vU W.L i A) W.src i o.lG).1 k).is=if k=i then 2 else (W.L k).is:=λk=>by
     rw[CR];unfold vU;split
     .exact q
     .rfl
    have s:(L0 i).is=(W.L i).is:=qa4 λa=>by have:=(h.at_ i g (λe=>a e.symm)).2.1;omega
    have r:∀k,i<k->k<12->(L0 k).is=(W.L k).is:=λk x p=>qa4 λa=>(h.at_ k p (λe=>a e.symm)).2.2 i od h0;refine⟨?_,λk hk a=>?_⟩
    .dsimp only;rw[h.eq];exact (VG (by rw[c,if_pos rfl];omega) s (λk hk=>by rw[c,if_neg hk]) r 12 0 (yb _) od rfl).symm
    .dsimp only at a|-;rw[c]at a|-
     by_cases e:k=i
     .subst e;rw[if_pos rfl];refine⟨od,rfl,λj n=>?_⟩;rw[c];split
      .decide
      .exact m j od
     .rw[if_neg e]at a|-;have⟨u,v,w⟩:=h.at_ k hk a;refine⟨u,v,λj n=>?_⟩;rw[c];split
      .decide
      .exact w j n
   .rename_i l;exact absurd b l
def aeT{L0:Lg}{W:Wk}{r:Rq}(h:Mad L0 W)(a:(yS W r).2.2=0):Mad L0 (yS W r).1:=by
 cases r with
 | told f v=>exact h.same CU.1 CU.2
 | op f o =>
  simp only[yS]at a|-;split at a
  .rename_i b;rw[if_pos b];exact h.same CU.1 CU.2
  .rename_i b;rw[if_neg b];split at a
   .rename_i c;rw[if_pos c];exact aen h a
   .cases a
def ad6{L0:Lg} : ∀(N:Nat) (W:Wk) (rs:List Rq),Mad L0 W->(rowF N W rs).2=0->Mad L0 (rowF N W rs).1
 | 0,W,rs,h,a=>by cases a
 | N+1,W,[],h,_=>h
 | N+1,W,r::rs,h,a=>by
  simp only[rowF]at a|-;split at a
  .cases a
  .rename_i c;rw[if_neg c];split at a
   .rename_i b;rw[if_pos b];exact ad6 N _ _ ((aeT h b).same rfl λ_=>rfl) a
   .rename_i b;exact absurd a b
def ac5{L0:Lg} : ∀(os:List lI) (W:Wk),Mad L0 W->(doneF W os).2=0->Mad L0 (doneF W os).1
 | [],W,h,_=>h
 | o::os,W,h,b=>by
  simp only[doneF]at b|-;split at b
  .rename_i a;rw[if_pos a];exact ac5 os _ (ad6 26 W _ h a) b
  .rename_i a;exact absurd b a
def aag{L:Lg}{f:Int}{b:Bt} : (bn L f b).2.2.made=zU L (bn L f b).1 12 0/\∀k,k<12->((bn L f b).1 k).is≠(L k).is->(L k).is=0/\((bn L f b).1 k).is=2:=by
 have a:∀k,(jo L b k).is=(L k).is:=λk=>by unfold jo;split<;>first|rfl|(rename_i e;subst e;rfl)
 unfold bn;split
 .have d:Mad (jo L b) ⟨jo L b,f+b.eD,b.src,b.aC,0,0,0,[]⟩:=⟨(xE _ _ _).symm,λk _ h=>absurd rfl h⟩;have g:=ac5 (L0:=jo L b) b.ops _ d;split
  .rename_i i;have h:=g i;refine⟨?_,λk j c=>?_⟩
   .dsimp only;rw[h.eq,Oo a]
   .have:=h.at_ k j (by rw[a];exact c);rw[a]at this;exact⟨this.1,this.2.1⟩
  .exact⟨by dsimp only;rw[H8 a,xE],λk _ h=>absurd (a k) h⟩
 .exact⟨(xE _ _ _).symm,λk _ h=>absurd rfl h⟩
open Pe
namespace topMade
set_option maxRecDepth 100000
set_option maxHeartbeats 4000000
abbrev sD (L:Lg) (f:Int) (L':Lg) (f':Int) (b:Bt) (r:Rc):Prop:=Hd ⟨12,[lC L f,lC L' f',btA b,.agg (Me r)],aQ true⟩
def atM (l:List Int) (k:Nat) (n:Int):Prop:=Bp 1 1 (mkD l) k=some (.of (.one (.e [.v (.i n)] 0)))
def aeQ{l:List Int}{k:Nat}{n:Int}(h:l[k]?=some n):atM l k n:=by unfold atM Bp mkD;rw[qa5,h];rfl
abbrev ae4 (S:St) (ex:Nat) (q:St):Prop:=vO prog f12.ntmps ⟨gF f12,S,ex,q⟩
def mdY (L:Lg) (f:Int) (L':Lg) (f':Int) (r:Rc):St:=[((0,4),.of (.one (.p 4 0))),((0,5),.of (.one (.p 5 0))),((0,7),.of (.one (.p 7 0)))]++(oC 4 0 (Tp L f)++(oC 5 0 (Tp L' f')++oC 7 0 (Me r)))
def mdS (L:Lg) (f:Int) (L':Lg) (f':Int) (r:Rc) (k j:Nat):St:=[((0,9),.of (jA k)),((0,11),.of (jA j))]++mdY L f L' f' r
def mdQ (L:Lg) (f:Int) (L':Lg) (f':Int) (r:Rc) (k:Nat):St:=((0,9),.of (jA k))::mdY L f L' f' r
def aei{L L':Lg}{f f':Int}{r:Rc}(h:∀k,k<12->(L' k).is≠(L k).is->(L k).is=0/\(L' k).is=2)(a:r.made.length<=12):∀(d j k:Nat),j+d=12->k<=r.made.length->r.made.drop k=zU L L' d j->ae4 (mdS L f L' f' r k j) 2 (mdQ L f L' f' r r.made.length)
 | 0,j,k,e,hk,b=>by
  obtain rfl:j=12:=od
  have : k=r.made.length:=by have:=congrArg List.length b;simp[zU]at this;omega
  subst this;generalize r.made.length=n;have⟨e,d,g,m,p⟩:=r;exact xQ (e:=1) [] [] al0
 | d+1,j,k,e,hk,b=>by
  by_cases c:(L j).is=(L' j).is
  .rw[zU,if_pos c]at b;have o:=aei (f:=f) (f':=f') h a d (j+1) k od hk b;have q:jJ (decide ((L j).is=(L' j).is)) true:=eT (zj c);generalize r.made.length=n at o;clear h b c a hk;have⟨s,rd,g,m,p⟩:=r;rcases bM (show j<12 by omega)with rfl|rfl|rfl|rfl|rfl|rfl|rfl|rfl|rfl|rfl|rfl|rfl
   all_goals exact LG [(24,bA true)] [] o (al q al0)
  .rw[zU,if_neg c]at b;have⟨l,x,w⟩:=kX b;have o:=aei (f:=f) (f':=f') h a d (j+1) (k+1) od l w;have⟨t,u⟩:=h j od (λe=>c e.symm);have q:jJ (decide ((L j).is=(L' j).is)) false:=eT (xb c);have y:jJ (!decide ((L j).is=0)) false:=eT (by simp[t]);have z:jJ (!decide ((L' j).is=2)) false:=eT (by simp[u]);have A:jJ (decide (((mkD r.made).length:Int)<=Int.ofNat k)) false:=eT (xb (by simp[mkD];omega));have B:=aeQ x;have C:mD (lW (IntKind.i64.wrap (Int.ofNat k+1))) (jA (k+1)):=yY (zF oe ot ot);generalize r.made.length=n at o;clear h b c a hk t u x w l;have⟨s,rd,g,m,p⟩:=r;have F:=λD E=>(LG [(24,bA false),(30,bA false),(37,bA false),(44,bA false),(50,.one (.e [.v (.i (j:Int))] 0)),(56,jA (k+1))] [] o (al q (al y (al z (al A (al B (al C al0)))))) (h:=D) (hc:=E):ae4 (mdS L f L' f' ⟨s,rd,g,m,p⟩ k j) 2 (mdQ L f L' f' ⟨s,rd,g,m,p⟩ n));rcases bM (show j<12 by omega)with rfl|rfl|rfl|rfl|rfl|rfl|rfl|rfl|rfl|rfl|rfl|rfl
   all_goals exact F oA oA
abbrev yM (S:St) (ex:Nat) (q:St):Prop:=vO prog f8.ntmps ⟨gF f8,S,ex,q⟩
def QG (L:Lg) (f:Int):St:=oC 4 0 ((ZQ 0).map .d)++oC 6 0 (Tp L f)
def vF (bs:List Bt) (L:Lg) (f:Int) (i:Nat):St:=[((0,0),.of (vT bs)),((0,1),.of (ZP 12)),((0,4),.of (.one (.p 4 0))),((0,6),.of (.one (.p 6 0))),((0,7),.of (jA i))]++QG L f
def IA (L:Lg) (f:Int):St:=[((0,4),.of (.one (.p 4 0))),((0,6),.of (.one (.p 6 0)))]++QG L f
section
variable {bs:List Bt}{L L':Lg}{f f':Int}{i:Nat}{b:Bt}{r:Rc}{ex:Nat}{q:St}
def jN(hi:bs.length<=i):yM (vF bs L f i) 2 (IA L f) :=
 xQ (e:=1) [(18,bA false)] [] (al (show mD (aQ (decide (Int.ofNat i<((bs.map wo).length:Int)))) (bA false) from wH oY) al0)
def mZ(hi:i<bs.length)(h:40<=i):yM (vF bs L f i) 2 (IA L f) :=
 xQ (e:=1) [(18,bA true),(21,bA false)] [] (al (show mD (aQ (decide (Int.ofNat i<((bs.map wo).length:Int)))) (bA true) from is_lt oY) (al (show mD (aQ (decide (Int.ofNat i<40))) (bA false) from wH ot) al0))
def ni(hi:bs[i]?=some b)(h:i<40)(a:Mg L f (rM b) L' f' (Me r))(j:sD L f L' f' (rM b) r)(hn:yM (vF bs L' f' (i+1)) ex q):yM (vF bs L f i) ex q:=by
 have o:mD (aQ (decide (Int.ofNat i<((bs.map wo).length:Int)))) (bA true):=is_lt (by have:=(qS.1 hi).1;rw[xj];simp;omega);have p:mD (aQ (decide (Int.ofNat i<40))) (bA true):=is_lt ot;have t:=Cm hi;have u:mD (lW (IntKind.i64.wrap (Int.ofNat i+1))) (jA (i+1)):=yY (zF oe ot ot);have⟨s,c,n,l,v⟩:=b;have⟨e,d,g,m,w⟩:=r;unfold rM at a j
 by_cases k:3000<l
 .rw[if_pos k]at a j;exact LG [(18,bA true),(21,bA true),(27,.one (.e (wo ⟨s,c,n,l,v⟩) 0)),(31,bA true),(24,jA (i+1))] [⟨_,a⟩,⟨_,j⟩] hn (al o (al p (al t (al (is_lt k) (al u al0)))))
 .rw[if_neg k]at a j;exact LG [(18,bA true),(21,bA true),(27,.one (.e (wo ⟨s,c,n,l,v⟩) 0)),(31,bA false),(24,jA (i+1))] [⟨_,a⟩,⟨_,j⟩] hn (al o (al p (al t (al (wH k) (al u al0)))))
end
def oH{bs:List Bt}(hb:su bs)(hk:∀{L:Lg}{f:Int}{b:Bt},GL L f->pg b->sD L f (bn L f b).1 (bn L f b).2.1 b (bn L f b).2.2):∀(n i:Nat) (L:Lg) (f:Int),i+n=40->GL L f->yM (vF bs L f i) 2 (IA (playF n (bs.drop i) L f).1 (playF n (bs.drop i) L f).2)
 | 0,i,L,f,k,c=>by
  simp only[playF]
  by_cases h:i<bs.length
  .exact mZ h od
  .exact jN od
 | n+1,i,L,f,k,c=>by
  cases g:bs.drop i with
  | nil =>
   have : bs.length<=i:=by have:=congrArg List.length g;simp at this;omega
   simp only[playF];exact jN this
  | cons b m =>
   have⟨l,a,e⟩:=kX g;have d:=hb.cap (jz a);have j:=oH hb hk n (i+1) _ _ od (l6 c d);rw[e]at j;simp only[playF];exact ni a od (BV c d) (hk c d) j
def qR{bs:List Bt}(hb:su bs)(hk:∀{L:Lg}{f:Int}{b:Bt},GL L f->pg b->sD L f (bn L f b).1 (bn L f b).2.1 b (bn L f b).2.2):Hd ⟨8,[vT bs,ZP 12],.rz [lC (playF 40 bs newL 0).1 (playF 40 bs newL 0).2,bA true]⟩:=by have a:=oH hb hk 40 0 newL 0 rfl new_GL;rw[qg1]at a;have e:=H_new;have d:=H_alive;generalize playF 40 bs newL 0=z at a|-;have⟨L2,h⟩:=z;have g:=wI (S:=vF bs newL 0 0) (q:=gF f8=gF f8) rfl (ps:=[]) al0;exact Ce func8 [] [_] (λx c=>by rw[qu]at c;subst c;exact a) [⟨_,e⟩,⟨_,d⟩] g
def adK{L0 L:Lg} : ∀d j,(zU L0 L d j).length<=d
 | 0,_=>jn _
 | d+1,j=>by
  have:=adK (L0:=L0) (L:=L) d (j+1);rw[zU];split
  .omega
  .simp only[jj];omega
def look{L:Lg}{f:Int}{b:Bt}(h:GL L f)(hb:pg b):sD L f (bn L f b).1 (bn L f b).2.1 b (bn L f b).2.2:=by have⟨a,i⟩:=aag (L:=L) (f:=f) (b:=b);generalize (bn L f b).1=L' at a i|-;generalize (bn L f b).2.1=f';generalize (bn L f b).2.2=r at a|-;have j:=aei (f:=f) (f':=f') (r:=r) i (by rw[a];exact adK 12 0) 12 0 0 rfl (yb _) (by rw[qg1];exact a);have l:jJ (decide (Int.ofNat r.made.length=((mkD r.made).length:Int))) true:=eT (zj (by simp[mkD]));generalize r.made.length=n at j l;clear a i;have⟨s,c,u,t,v⟩:=b;have⟨e,d,g,m,p⟩:=r;have o:=wI (S:=mdS L f L' f' ⟨e,d,g,m,p⟩ 0 0) (q:=gF f12=gF f12) rfl (ps:=[]) al0;exact Ce func12 [(62,bA true)] [_] (λx k=>by rw[qu]at k;subst k;exact j) [] (jX o (al l al0))
def xY{bs:List Bt}(hb:su bs):Hd ⟨4,[vT bs],aQ true⟩:=by have a:=qR hb look;exact aF func4 [⟨_,a⟩]
end topMade
end Go.Proofs.YtnamdihclpbdfabGreat
namespace Go.Proofs.YtnamdihclpbdfabGreat.topMade
set_option linter.all false
open Go.Proofs.Tryz
set_option maxRecDepth 100000
set_option maxHeartbeats 4000000
open Go.ChangeShapes Go.WideShapes Go.ChangeAt Go.RowKit
open Pe (fI gm dU iZ)
def own:ownKnob prog.godebug=none:=oA
def laidOut:laidOutB prog:=oA
def PY{w w':cg}(h:cq w w' none):Below w.heap.size w w':=⟨h.os,h.tape,h.output,h.size,λk a=>h.block k a oe⟩
def contract(H:Type)(enc:TypeId×cm->H)(W:cg)(c:Nat)(args:Array cm)(ds l:List (DataW H))(a:List MemPlace)
 (hval:∀(j:Nat) t v,f4.params[j]?=some t->args[j]?=some v->Value.okWide prog W .any c t v)
 (hW:DataW.Whole enc prog f4.params.toList Rows.topMadeSpec.vars false W args.toList ds l a) (hk:Rows.uptoSmall H (ds++l)) :
 Calls prog 4 args W λe k=>∃v,e =.returned v/\Rows.topMadeSpec.post enc prog f4 false true false false W args v k:=by
 have b:=hW;obtain⟨p,q,hA0,w,rfl,A,C⟩:=hW;have n:DataW.TrodAll enc prog W 0 (λ_=>true) true f4.params.toList args.toList ds p:=hA0;rw[params4]at n hval;obtain⟨i,I,J,s,r,K,f,rfl,rfl,m,G⟩:=trodAll_cons n;obtain⟨rfl,rfl,rfl⟩:=trodAll_nil G;obtain rfl:args=#[i]:=by cases args;simp_all
 obtain⟨rfl,rfl⟩:=trodVars_none w;have y:=qc4 hk;simp only[qb0,Rows.uptoBulkAll]at y;have⟨bs,g,D⟩:=nS od m (hval 0 22 i rfl rfl);clear hA0;simp only[qb0]at b;have d:∀x∈r,x.block<W.heap.size:=λx F=>b.lt x (by simp[F]);have u:=(xY g).runN rfl (λ_=>True) W [i] ⟨D,trivial⟩;refine u.mono λe k ⟨B,v,z,E⟩=>?_;obtain rfl:=Pe.bW E;subst z;have o:=PY B;exact⟨_,rfl,_,_,_,[],r++[],[],b,trodAll_cons_mk (shut_bool underlying4 _) ka3,trodAll_cons_mk (Below.trod laidOut oA (qc4 oA) m o d) ka3,rfl,o.frame _,λh=>by cases h⟩
def lifted(os:Os)(a:os.Started)(H:Type)(enc:TypeId×cm->H)(F:Stop.Interp) :
 ReturnsInHanded {} checked os 4 .any ((Rows.OpenSpec.upto Rows.topMadeSpec).pre6 enc prog f4 Rows.topMadeUptoRow.domain false) (((Rows.OpenSpec.upto Rows.topMadeSpec).at F).post enc prog f4 false true false false):=by
 refine jg4 (C:=checked) (s:=Rows.OpenSpec.upto Rows.topMadeSpec) (k:=Rows.uptoSmall) rfl own a oA func4
  (OpenSpec.witness (enc:=enc) (C:=checked) (s:=Rows.OpenSpec.upto Rows.topMadeSpec) (k:=Rows.uptoSmall) rfl false ⟨#[],#[.n0],[]⟩ 8 oA oA oA
   (x:=([.nil],[],[])) oA rfl oA) ?_
 intro W d c f g b e hW _ h _;exact contract H enc W d c f g b e hW h
def over:Rows.topMadeUptoRow.holds Tryz.pinned (Rows.OpenSpec.upto Rows.topMadeSpec) :=
 jg5 4 f4 rfl rfl rfl rfl rfl rfl rfl ⟨rfl,rfl,rfl,rfl,rfl⟩ rfl rfl rfl rfl rfl oA func4 oA
  (qc4 oA) oR
  (λc a H b _ F=>lifted c a H b F)
end Go.Proofs.YtnamdihclpbdfabGreat.topMade
namespace Go.Proofs.YtnamdihclpbdfabGreat
set_option linter.all false
open Go.Proofs.Tryz
set_option maxRecDepth 100000
set_option maxHeartbeats 4000000
theorem topMade_holds:Rows.TopMadeUptoSaid:=topMade.over
#print axioms topMade_holds
