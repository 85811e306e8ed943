/- For every list of batches whose reading holds at most 1048576 values and letters, TopGas, TopMoney, TopCounters, TopGood and TopWhole return true and leave their argument as it was. Condition: that bound on the reading. -/
import Derived.Test.YtnamdihclpbdfaaGreatKtZav
import Derived.OpenShut
import Derived.JoinedCond
namespace Go.Proofs.YtnamdihclpbdfaaGreat
set_option linter.all false
open Go.Proofs.Tryz
set_option maxRecDepth 100000
set_option maxHeartbeats 4000000
open Pe
namespace topWhole
set_option maxRecDepth 100000
set_option maxHeartbeats 4000000
def row_done:∀(N:Nat) (W:Wk) (rs:List Rq),PW W rs->(24 - W.done).toNat+2<=N->(rowF N W rs).2=0->W.done+rs.length<=(rowF N W rs).1.done
 | 0,W,rs,b,h,_=>od
 | N+1,W,[],b,_,_=>by simp[rowF]
 | N+1,W,r::rs,b,g,a=>by
  have h:=F9 b.1.toWI (b.2 _ (je3 ..));have e:=@Way.next _ way W r rs b
  have j:=h.same.2.2.1;have i:=b.1.done;simp only[rowF]at a|-;split at a
  .cases a
  .rename_i c;rw[if_neg c];split at a
   .rename_i d;rw[if_pos d];have f:=row_done N _ _ (e c d) Xs a;simp only[jt,jj,jc4]at f|-;omega
   .rename_i d;exact absurd a d
def all_done:∀(os:List lI) (W:Wk),QW W os->(doneF W os).2=0->W.done+os.length<=(doneF W os).1.done
 | [],W,_,_=>by simp[doneF]
 | o::os,W,c,b=>by
  have f:PW W [.op W.src o]:=⟨c.1,λr d=>by rw[qu]at d;subst d;exact c.2 o oe⟩;have h:=c.1.done;have d:=row_done 26 W _ f od;simp only[doneF]at b|-;split at b
  .rename_i a;rw[if_pos a];have g:=all_done os _ (wayC.next c a) b;have e:=d a;simp only[jj,ux,jc4]at g e|-;omega
  .rename_i a;exact absurd b a
abbrev sD (L:Lg) (f:Int) (L':Lg) (f':Int) (b:Bt) (r:Rc):Prop:=Hd ⟨16,[lC L f,lC L' f',btA b,.agg (Me r)],aQ true⟩
def ac4{L L':Lg}{f f':Int}{b:Bt}{r:Rc}(i:r.code=0)(a:(b.ops.length:Int)<=r.done)(h:r.done<=24):sD L f L' f' b r:=by have⟨s,c,o,n,l⟩:=b;have⟨e,d,g,m,p⟩:=r;obtain rfl:e=0:=i;dsimp only at a h;have j:jJ (decide (((l.map wO).length:Int)<=d)) true:=eT (kO (by rw[yy];exact a));have k:jJ (decide (d<=24)) true:=eT (kO h);exact runT func16 [(18,bA true),(22,bA true)] [] (al j (al k al0))
def ac3{L:Lg}{f e:Int}{b:Bt}(a:e≠0)(d:Hd ⟨17,[lC L f,lC L f],aQ true⟩):sD L f L f b ⟨e,0,0,0,[]⟩:=by have⟨s,c,i,h,j⟩:=b;have g:jJ (decide (e=0)) false:=eT (zE a);exact runT func16 [(12,bA false)] [⟨_,d⟩] (al g al0)
def ac5{L:Lg}{f e p c eD aC a c2:Int}{os:List lI}{n:Nat}(hn:n<4)(h0:e≠0)(b:Hd ⟨17,[lC L f,lC (jo L ⟨Int.ofNat n,c,eD,aC,os⟩) (f+eD)],aQ false⟩)
 (hU:Hd ⟨17,[lC L f,lC (NV L n a c2) f],aQ true⟩) (i2:mD (lW (IntKind.i64.wrap (f+eD - eD))) (iA f)) (i3:mD (lW (IntKind.i64.wrap ((L n).ji - eD+eD))) (iA a)) (i4:mD (lW (IntKind.i64.wrap (c - 1))) (iA c2)) :
 sD L f (jo L ⟨Int.ofNat n,c,eD,aC,os⟩) (f+eD) ⟨Int.ofNat n,c,eD,aC,os⟩ ⟨e,0,p,0,[]⟩:=by
 have d:jJ (decide (e=0)) false:=eT (zE h0);clear h0;rcases four hn with rfl|rfl|rfl|rfl
 all_goals exact runT func16 [(12,bA false),(49,iA f),(59,iA a),(69,iA c2)] [⟨_,b⟩,⟨_,hU⟩] (al d (al i2 (al i3 (al i4 al0))))
def KU{L L':Lg}{n:Nat}(h:(L n).cnt≠(L' n).cnt):∀d j,j<=n->n<j+d->qj L L' d j=false
 | 0,j,a,b=>od
 | d+1,j,a,b=>by
  simp only[qj]
  by_cases e:j=n
  .subst e;rw[zE h,Bool.and_false,qe5]
  .rw[KU h d (j+1) od od,Bool.and_false]
def K6{L L':Lg}(h:∀i,(L i).ji=(L' i).ji/\(L i).cnt=(L' i).cnt):∀d j,qj L L' d j
 | 0,_=>rfl
 | d+1,j=>by simp only[qj];rw[kO (h j).1,kO (h j).2,K6 h d (j+1)];rfl
abbrev yM (S:St) (ex:Nat) (q:St):Prop:=vO prog f9.ntmps ⟨gF f9,S,ex,q⟩
def QG (L:Lg) (f:Int):St:=oC 4 0 ((ZQ 0).map .d)++oC 6 0 (Tp L f)
def vF (bs:List Bt) (L:Lg) (f:Int) (i:Nat):St:=[((0,0),.of (vT bs)),((0,1),.of (ZP 16)),((0,4),.of (.one (.p 4 0))),((0,6),.of (.one (.p 6 0))),((0,7),.of (jA i))]++QG L f
def IA (L:Lg) (f:Int):St:=[((0,4),.of (.one (.p 4 0))),((0,6),.of (.one (.p 6 0)))]++QG L f
section
variable {bs:List Bt}{L L':Lg}{f f':Int}{i:Nat}{b:Bt}{r:Rc}{ex:Nat}{q:St}
def jN(hi:bs.length<=i):yM (vF bs L f i) 2 (IA L f) :=
 xQ (e:=1) [(18,bA false)] [] (al (show mD (aQ (decide (Int.ofNat i<((bs.map wo).length:Int)))) (bA false) from wH ON) al0)
def mZ(hi:i<bs.length)(h:40<=i):yM (vF bs L f i) 2 (IA L f) :=
 xQ (e:=1) [(18,bA true),(21,bA false)] [] (al (show mD (aQ (decide (Int.ofNat i<((bs.map wo).length:Int)))) (bA true) from is_lt ON) (al (show mD (aQ (decide (Int.ofNat i<40))) (bA false) from wH ot) al0))
def ni(hi:bs[i]?=some b)(h:i<40)(a:Mg L f (rM b) L' f' (Me r))(j:sD L f L' f' (rM b) r)(hn:yM (vF bs L' f' (i+1)) ex q):yM (vF bs L f i) ex q:=by
 have o:mD (aQ (decide (Int.ofNat i<((bs.map wo).length:Int)))) (bA true):=is_lt (by have:=(qS.1 hi).1;rw[yy];simp;omega);have p:mD (aQ (decide (Int.ofNat i<40))) (bA true):=is_lt ot;have t:=Cm hi;have u:mD (lW (IntKind.i64.wrap (Int.ofNat i+1))) (jA (i+1)):=yY (zF oe ot ot);have⟨s,c,n,l,v⟩:=b;have⟨e,d,g,m,w⟩:=r;unfold rM at a j
 by_cases k:3000<l
 .rw[if_pos k]at a j;exact LG [(18,bA true),(21,bA true),(27,.one (.e (wo ⟨s,c,n,l,v⟩) 0)),(31,bA true),(24,jA (i+1))] [⟨_,a⟩,⟨_,j⟩] hn (al o (al p (al t (al (is_lt k) (al u al0)))))
 .rw[if_neg k]at a j;exact LG [(18,bA true),(21,bA true),(27,.one (.e (wo ⟨s,c,n,l,v⟩) 0)),(31,bA false),(24,jA (i+1))] [⟨_,a⟩,⟨_,j⟩] hn (al o (al p (al t (al (wH k) (al u al0)))))
end
def oH{bs:List Bt}(hb:su bs)(hk:∀{L:Lg}{f:Int}{b:Bt},GL L f->pg b->sD L f (bn L f b).1 (bn L f b).2.1 b (bn L f b).2.2):∀(n i:Nat) (L:Lg) (f:Int),i+n=40->GL L f->yM (vF bs L f i) 2 (IA (playF n (bs.drop i) L f).1 (playF n (bs.drop i) L f).2)
 | 0,i,L,f,k,c=>by
  simp only[playF]
  by_cases h:i<bs.length
  .exact mZ h od
  .exact jN od
 | n+1,i,L,f,k,c=>by
  cases g:bs.drop i with
  | nil =>
   have : bs.length<=i:=by have:=congrArg List.length g;simp at this;omega
   simp only[playF];exact jN this
  | cons b m =>
   have⟨l,a,e⟩:=kX g;have d:=hb.cap (jz a);have j:=oH hb hk n (i+1) _ _ od (l6 c d);rw[e]at j;simp only[playF];exact ni a od (BV c d) (hk c d) j
def qR{bs:List Bt}(hb:su bs)(hk:∀{L:Lg}{f:Int}{b:Bt},GL L f->pg b->sD L f (bn L f b).1 (bn L f b).2.1 b (bn L f b).2.2):Hd ⟨9,[vT bs,ZP 16],.rz [lC (playF 40 bs newL 0).1 (playF 40 bs newL 0).2,bA true]⟩:=by have a:=oH hb hk 40 0 newL 0 rfl new_GL;rw[qf6]at a;have e:=H_new;have d:=H_alive;generalize playF 40 bs newL 0=z at a|-;have⟨L2,h⟩:=z;have g:=wI (S:=vF bs newL 0 0) (q:=gF f9=gF f9) rfl (ps:=[]) al0;exact Ce func9 [] [_] (λx c=>by rw[qu]at c;subst c;exact a) [⟨_,e⟩,⟨_,d⟩] g
def look{L:Lg}{f:Int}{b:Bt}(h:GL L f)(hb:pg b):sD L f (bn L f b).1 (bn L f b).2.1 b (bn L f b).2.2:=by
 unfold bn
 by_cases a:mf L f b=0
 .rw[if_pos a];have l:=qF h hb a;have w:=all_ok b.ops _ l;have x:=all_done b.ops _ l
  by_cases d:(doneF ⟨jo L b,f+b.eD,b.src,b.aC,0,0,0,[]⟩ b.ops).2=0
  .rw[if_pos d];have u:=x d;have v:=(w.wp d).done;exact ac4 rfl (by dsimp only at u|-;omega) v.2
  .rw[if_neg d];generalize (doneF ⟨jo L b,f+b.eD,b.src,b.aC,0,0,0,[]⟩ b.ops).2=e at d;generalize (doneF ⟨jo L b,f+b.eD,b.src,b.aC,0,0,0,[]⟩ b.ops).1.paid=p;have j:=h.Br a;have⟨g1,g2,r,E,F,t⟩:=kM a;have⟨s,c,g,q,D⟩:=b;dsimp only at *;obtain⟨n,rfl⟩:∃n:Nat,s=Int.ofNat n:=⟨s.toNat,ot⟩;simp only[Int.ofNat_eq_natCast,ka1]at j r t;have B:n<4:=j.2.1;have C:=h.EX.shares n od;have z:=(h.ac n od).cnt;have G:=h.EX.fe;have A:=h.EX.fe4;have hK:∀i,i<12->sQ (L i) (jo L ⟨Int.ofNat n,c,g,q,D⟩ i):=λi _=>by
    unfold jo;split
    .rename_i e;subst e;exact⟨⟨rfl,rfl,rfl,rfl,rfl,rfl⟩,rfl,rfl,rfl,rfl,rfl,rfl,rfl⟩
    .exact sQ.rfl' _
   have y:∀i,i<12->sQ (L i) (NV L n (L n).ji (L n).cnt i):=λi _=>by
    unfold NV;split
    .rename_i e;subst e;exact⟨⟨rfl,rfl,rfl,rfl,rfl,rfl⟩,rfl,rfl,rfl,rfl,rfl,rfl,rfl⟩
    .exact sQ.rfl' _
   have m:=uY (f:=f) (f':=f+g) hK h.oks;rw[KU (n:=n) (by unfold jo;rw[if_pos oe];dsimp only;omega) 12 0 od od,Bool.false_and]at m;have o:=uY (f:=f) (f':=f) y h.oks;rw[K6 (λi=>by unfold NV;split;rename_i e;subst e;exact⟨rfl,rfl⟩;exact⟨rfl,rfl⟩),ue,kO rfl]at o;exact ac5 B d m o (yY (zF od od od)) (yY (zF od od od)) (yY US)
 .rw[if_neg a];have k:=uY (f:=f) (f':=f) (λi _=>sQ.rfl' (L i)) h.oks;rw[wS,ue,kO rfl]at k;exact ac3 a k
def xY{bs:List Bt}(hb:su bs):Hd ⟨5,[vT bs],aQ true⟩:=by have a:=qR hb look;exact aF func5 [⟨_,a⟩]
end topWhole
end Go.Proofs.YtnamdihclpbdfaaGreat
namespace Go.Proofs.YtnamdihclpbdfaaGreat.topWhole
set_option linter.all false
open Go.Proofs.Tryz
set_option maxRecDepth 100000
set_option maxHeartbeats 4000000
open Go.ChangeShapes Go.WideShapes Go.ChangeAt Go.RowKit
open Pe (fI gm dU iZ)
def own:ownKnob prog.godebug=none:=oA
def laidOut:laidOutB prog:=oA
def PY{w w':cg}(h:cq w w' none):Below w.heap.size w w':=⟨h.os,h.tape,h.output,h.size,λk a=>h.block k a oe⟩
def contract(H:Type)(enc:TypeId×cm->H)(W:cg)(c:Nat)(args:Array cm)(ds l:List (DataW H))(a:List MemPlace)
 (hval:∀(j:Nat) t v,f5.params[j]?=some t->args[j]?=some v->Value.okWide prog W .any c t v)
 (hW:DataW.Whole enc prog f5.params.toList Rows.topWholeSpec.vars false W args.toList ds l a) (hk:Rows.uptoSmall H (ds++l)) :
 Calls prog 5 args W λe k=>∃v,e =.returned v/\Rows.topWholeSpec.post enc prog f5 false true false false W args v k:=by
 have b:=hW;obtain⟨p,q,hA0,w,rfl,A,C⟩:=hW;have n:DataW.TrodAll enc prog W 0 (λ_=>true) true f5.params.toList args.toList ds p:=hA0;rw[params5]at n hval;obtain⟨i,I,J,s,r,K,f,rfl,rfl,m,G⟩:=trodAll_cons n;obtain⟨rfl,rfl,rfl⟩:=trodAll_nil G;obtain rfl:args=#[i]:=by cases args;simp_all
 obtain⟨rfl,rfl⟩:=trodVars_none w;have y:=qc1 hk;simp only[qa3,Rows.uptoBulkAll]at y;have⟨bs,g,D⟩:=nS od m (hval 0 22 i rfl rfl);clear hA0;simp only[qa3]at b;have d:∀x∈r,x.block<W.heap.size:=λx F=>b.lt x (by simp[F]);have u:=(xY g).runN rfl (λ_=>True) W [i] ⟨D,trivial⟩;refine u.mono λe k ⟨B,v,z,E⟩=>?_;obtain rfl:=Pe.bW E;subst z;have o:=PY B;exact⟨_,rfl,_,_,_,[],r++[],[],b,trodAll_cons_mk (shut_bool underlying4 _) jf1,trodAll_cons_mk (Below.trod laidOut oA (qc1 oA) m o d) jf1,rfl,o.frame _,λh=>by cases h⟩
def lifted(os:Os)(a:os.Started)(H:Type)(enc:TypeId×cm->H)(F:Stop.Interp) :
 ReturnsInHanded {} checked os 5 .any ((Rows.OpenSpec.upto Rows.topWholeSpec).pre6 enc prog f5 Rows.topWholeUptoRow.domain false) (((Rows.OpenSpec.upto Rows.topWholeSpec).at F).post enc prog f5 false true false false):=by
 refine jc7 (C:=checked) (s:=Rows.OpenSpec.upto Rows.topWholeSpec) (k:=Rows.uptoSmall) rfl own a oA func5
  (ka6 (enc:=enc) (C:=checked) (s:=Rows.OpenSpec.upto Rows.topWholeSpec) (k:=Rows.uptoSmall) rfl false ⟨#[],#[.n0],[]⟩ 8 oA oA oA
   (x:=([.nil],[],[])) oA rfl oA) ?_
 intro W d c f g b e hW _ h _;exact contract H enc W d c f g b e hW h
def over:Rows.topWholeUptoRow.holds Tryz.pinned (Rows.OpenSpec.upto Rows.topWholeSpec) :=
 jd1 5 f5 rfl rfl rfl rfl rfl rfl rfl ⟨rfl,rfl,rfl,rfl,rfl⟩ rfl rfl rfl rfl rfl oA func5 oA
  (qc1 oA) oR
  (λc a H b _ F=>lifted c a H b F)
end Go.Proofs.YtnamdihclpbdfaaGreat.topWhole
namespace Go.Proofs.YtnamdihclpbdfaaGreat
set_option linter.all false
open Go.Proofs.Tryz
set_option maxRecDepth 100000
set_option maxHeartbeats 4000000
theorem topWhole_holds:Rows.TopWholeUptoSaid:=topWhole.over
#print axioms topWhole_holds
theorem top_all:Rows.TopGasUptoSaid/\Rows.TopMoneyUptoSaid/\Rows.TopCountersUptoSaid/\Rows.TopGoodUptoSaid/\Rows.TopWholeUptoSaid:=⟨topGas_holds,topMoney_holds,topCounters_holds,topGood_holds,topWhole_holds⟩
