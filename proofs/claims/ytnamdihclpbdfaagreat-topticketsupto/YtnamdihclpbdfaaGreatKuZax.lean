/- For every list of batches whose reading holds at most 1048576 values and letters, TopTickets returns true and leaves its argument as it was. Condition: that bound on the reading. -/
import Derived.Test.YtnamdihclpbdfaaGreatKuZaw
import Derived.Deep.Slices
import Derived.Lib.SmallJoins
import Derived.JoinedCond
namespace Go.Proofs.YtnamdihclpbdfaaGreat
set_option linter.all false
open Go.Proofs.Tryz
set_option maxRecDepth 100000
set_option maxHeartbeats 4000000
open Pe
namespace topTickets
set_option maxRecDepth 100000
set_option maxHeartbeats 4000000
abbrev sD (L:Lg) (f:Int) (L':Lg) (f':Int) (b:Bt) (r:Rc):Prop:=Hd ⟨21,[lC L f,lC L' f',btA b,.agg (Me r)],aQ true⟩
abbrev yM (S:St) (ex:Nat) (q:St):Prop:=vO prog f9.ntmps ⟨gF f9,S,ex,q⟩
def QG (L:Lg) (f:Int):St:=oC 4 0 ((ZQ 0).map .d)++oC 6 0 (Tp L f)
def vF (bs:List Bt) (L:Lg) (f:Int) (i:Nat):St:=[((0,0),.of (vT bs)),((0,1),.of (ZP 21)),((0,4),.of (.one (.p 4 0))),((0,6),.of (.one (.p 6 0))),((0,7),.of (jA i))]++QG L f
def IA (L:Lg) (f:Int):St:=[((0,4),.of (.one (.p 4 0))),((0,6),.of (.one (.p 6 0)))]++QG L f
section
variable {bs:List Bt}{L L':Lg}{f f':Int}{i:Nat}{b:Bt}{r:Rc}{ex:Nat}{q:St}
def jN(hi:bs.length<=i):yM (vF bs L f i) 2 (IA L f) :=
 xQ (e:=1) [(18,bA false)] [] (al (show mD (aQ (decide (Int.ofNat i<((bs.map wo).length:Int)))) (bA false) from wH (by rw[qc3];simp;omega)) al0)
def mZ(hi:i<bs.length)(h:40<=i):yM (vF bs L f i) 2 (IA L f) :=
 xQ (e:=1) [(18,bA true),(21,bA false)] [] (al (show mD (aQ (decide (Int.ofNat i<((bs.map wo).length:Int)))) (bA true) from is_lt (by rw[qc3];simp;omega)) (al (show mD (aQ (decide (Int.ofNat i<40))) (bA false) from wH ov) al0))
def ni(hi:bs[i]?=some b)(h:i<40)(a:Mg L f (rM b) L' f' (Me r))(j:sD L f L' f' (rM b) r)(hn:yM (vF bs L' f' (i+1)) ex q):yM (vF bs L f i) ex q:=by
 have o:mD (aQ (decide (Int.ofNat i<((bs.map wo).length:Int)))) (bA true):=is_lt (by have:=(qT.1 hi).1;rw[qc3];simp;omega);have p:mD (aQ (decide (Int.ofNat i<40))) (bA true):=is_lt ov;have t:=Cm hi;have u:mD (lW (IntKind.i64.wrap (Int.ofNat i+1))) (jA (i+1)):=yY (zF oe ov ov);have⟨s,c,n,l,v⟩:=b;have⟨e,d,g,m,w⟩:=r;unfold rM at a j
 by_cases k:3000<l
 .rw[if_pos k]at a j;exact LG [(18,bA true),(21,bA true),(27,.one (.e (wo ⟨s,c,n,l,v⟩) 0)),(31,bA true),(24,jA (i+1))] [⟨_,a⟩,⟨_,j⟩] hn (al o (al p (al t (al (is_lt k) (al u al0)))))
 .rw[if_neg k]at a j;exact LG [(18,bA true),(21,bA true),(27,.one (.e (wo ⟨s,c,n,l,v⟩) 0)),(31,bA false),(24,jA (i+1))] [⟨_,a⟩,⟨_,j⟩] hn (al o (al p (al t (al (wH k) (al u al0)))))
end
def oH{bs:List Bt}(hb:su bs)(hk:∀{L:Lg}{f:Int}{b:Bt},GL L f->pg b->sD L f (bn L f b).1 (bn L f b).2.1 b (bn L f b).2.2):∀(n i:Nat) (L:Lg) (f:Int),i+n=40->GL L f->yM (vF bs L f i) 2 (IA (playF n (bs.drop i) L f).1 (playF n (bs.drop i) L f).2)
 | 0,i,L,f,k,c=>by
  simp only[playF]
  by_cases h:i<bs.length
  .exact mZ h od
  .exact jN od
 | n+1,i,L,f,k,c=>by
  cases g:bs.drop i with
  | nil =>
   have : bs.length<=i:=by have:=congrArg List.length g;simp at this;omega
   simp only[playF];exact jN this
  | cons b m =>
   have⟨l,a,e⟩:=kX g;have d:=hb.cap (ka a);have j:=oH hb hk n (i+1) _ _ od (l6 c d);rw[e]at j;simp only[playF];exact ni a od (BV c d) (hk c d) j
def qR{bs:List Bt}(hb:su bs)(hk:∀{L:Lg}{f:Int}{b:Bt},GL L f->pg b->sD L f (bn L f b).1 (bn L f b).2.1 b (bn L f b).2.2):Hd ⟨9,[vT bs,ZP 21],.rz [lC (playF 40 bs newL 0).1 (playF 40 bs newL 0).2,bA true]⟩:=by have a:=oH hb hk 40 0 newL 0 rfl new_GL;rw[ja4]at a;have e:=H_new;have d:=H_alive;generalize playF 40 bs newL 0=z at a|-;have⟨L2,h⟩:=z;have g:=wI (S:=vF bs newL 0 0) (q:=gF f9=gF f9) rfl (ps:=[]) al0;exact Ce func9 [] [_] (λx c=>by rw[qv]at c;subst c;exact a) [⟨_,e⟩,⟨_,d⟩] g
abbrev ttL (S:St) (ex:Nat) (q:St):Prop:=vO prog f21.ntmps ⟨gF f21,S,ex,q⟩
def ttQ (L:Lg) (f:Int) (L':Lg) (f':Int) (r:Rc) (a b:Int):St:=[((0,4),.of (.one (.p 4 0))),((0,5),.of (.one (.p 5 0))),((0,7),.of (.one (.p 7 0))),((0,9),.of (iA a)),((0,10),.of (iA b))]++(oC 4 0 (Tp L f)++(oC 5 0 (Tp L' f')++oC 7 0 (Me r)))
def ttS (L:Lg) (f:Int) (L':Lg) (f':Int) (r:Rc) (a b:Int) (j:Nat):St:=[((0,18),.of (.agg (asX L'))),((0,19),.of (jA j))]++ttQ L f L' f' r a b
abbrev AbH (L:Lg) (f:Int) (j:Nat) (n g:Int):Prop:=Hd ⟨22,[lC L f,jA j],.rz [iA n,iA g]⟩
section
variable {L L':Lg}{f f' a b a2 b2 n o g h mx:Int}{r:Rc}{j:Nat}{ex:Nat}{q:St}
def tt_end:ttL (ttS L f L' f' r a b 12) 2 (ttQ L f L' f' r a b):=by have⟨e,d,g,m,c⟩:=r;exact xQ (e:=1) [] [] al0
def aeP(j:AbH L' f' 0 n g)(k:AbH L f 0 o h)(c:(if g<h then h else g)=mx)(i:1073741824<mx):ttL (ttS L f L' f' r a b 0) 1 [((0,8),.of (bA true))]:=by have l:=yY c;have p:=is_lt i;clear c i;have⟨e,d,g,m,q⟩:=r;exact xQ (e:=0) [(37,iA mx),(38,bA true)] [⟨_,j⟩,⟨_,k⟩] (al l (al p al0))
def ae5(k:AbH L' f' 0 n g)(l:AbH L f 0 o h)(c:(if g<h then h else g)=mx)(i:¬1073741824<mx)(j:1099511627776<r.Ze):ttL (ttS L f L' f' r a b 0) 1 [((0,8),.of (bA true))]:=by have p:=yY c;have q:=wH i;have s:=is_lt j;clear c i j;have⟨e,d,g,m,t⟩:=r;exact xQ (e:=0) [(37,iA mx),(38,bA false),(42,bA true)] [⟨_,k⟩,⟨_,l⟩] (al p (al q (al s al0)))
def ae4(v:j<12)(t:AbH L' f' j n g)(u:AbH L f j o h)(c:(if g<h then h else g)=mx)(i:¬1073741824<mx)(k:¬1099511627776<r.Ze)(l:¬o<n)(p:IntKind.i64.wrap (a+n)=a2)(s:IntKind.i64.wrap (b+o)=b2)(C:ttL (ttS L f L' f' r a2 b2 (j+1)) ex q):ttL (ttS L f L' f' r a b j) ex q:=by
 have w:=yY c;have x:=wH i;have y:=wH k;have z:=wH l;have A:=yY p;have B:=yY s;clear c i k l p s;have⟨e,d,g,m,D⟩:=r;rcases bM v with rfl|rfl|rfl|rfl|rfl|rfl|rfl|rfl|rfl|rfl|rfl|rfl
 all_goals exact LG [(37,iA mx),(38,bA false),(42,bA false),(46,bA false),(60,iA a2),(63,iA b2)] [⟨_,t⟩,⟨_,u⟩] C (al w (al x (al y (al z (al A (al B al0))))))
def ae6(x:j<12)(u:AbH L' f' j n g)(v:AbH L f j o h)(w:Hd ⟨23,[CW (L' j).co],aQ true⟩)(c:(if g<h then h else g)=mx)(i:¬1073741824<mx)(k:¬1099511627776<r.Ze)(l:o<n)(t:(L' j).is=2)(p:IntKind.i64.wrap (a+n)=a2)(s:IntKind.i64.wrap (b+o)=b2)(F:ttL (ttS L f L' f' r a2 b2 (j+1)) ex q):ttL (ttS L f L' f' r a b j) ex q:=by
 have y:=yY c;have z:=wH i;have A:=wH k;have B:=is_lt l;have C:=yY p;have D:=yY s;have E:jJ (!decide ((L' j).is=2)) false:=eT (by simp[t]);clear c i k l p s t;have⟨e,d,g,m,G⟩:=r;rcases bM x with rfl|rfl|rfl|rfl|rfl|rfl|rfl|rfl|rfl|rfl|rfl|rfl
 all_goals exact LG [(37,iA mx),(38,bA false),(42,bA false),(46,bA true),(50,bA false),(60,iA a2),(63,iA b2)] [⟨_,u⟩,⟨_,v⟩,⟨_,w⟩] F (al y (al z (al A (al B (al E (al C (al D al0)))))))
def aeA(b:ttL (ttS L f L' f' r 0 0 0) 1 [((0,8),.of (bA true))]){x:Bt} : sD L f L' f' x r:=by have⟨s,c,k,j,l⟩:=x;have⟨e,d,g,m,i⟩:=r;have h:=wI (S:=ttS L f L' f' ⟨e,d,g,m,i⟩ 0 0 0) (q:=gF f21=gF f21) rfl (ps:=[]) al0;exact Ce func21 [] [_] (λx a=>by rw[qv]at a;subst a;exact b) [] h
def afh{dl:Int}(k:ttL (ttS L f L' f' r 0 0 0) 2 (ttQ L f L' f' r a b))(h:IntKind.i64.wrap (a - b)=dl)(i:dl<=r.Ze){x:Bt} : sD L f L' f' x r:=by have l:=yY h;have n:jJ (decide (dl<=r.Ze)) true:=eT (xb i);clear h i;have⟨s,c,u,t,v⟩:=x;have⟨e,d,g,m,p⟩:=r;have o:=wI (S:=ttS L f L' f' ⟨e,d,g,m,p⟩ 0 0 0) (q:=gF f21=gF f21) rfl (ps:=[]) al0;exact Ce func21 [(67,iA dl),(70,bA true)] [_] (λx j=>by rw[qv]at j;subst j;exact k) [] (jX o (al l (al n al0)))
end
def aeb{L:Lg}{f:Int}(h:GL L f)(a:CR L 12<=1073741824)(i:Nat):abL L i<=38654705664000000:=@aef L f (afk i) h a 12 (jj _)
def JJ{L:Lg}{f:Int}(h:GL L f)(a:CR L 12<=1073741824):∀m,abS L m<=38654705664000000*m
 | 0=>jj _
 | m+1=>by have:=JJ h a m;have:=aeb h a m;rw[abS];omega
def AbH.of{L:Lg}{f:Int}(h:GL L f)(b:CR L 12<=1073741824)(j:Nat):AbH L f j (abL L j) (CR L 12):=by
 have a:=ZR (mk:=(j:Int)) h;have c:=aeb h b j;have e:IntKind.i64.wrap ((@uY (mkQ (j:Int)) L 12:Nat):Int)=(abL L j:Int):=by show IntKind.i64.wrap ((abL L j:Nat):Int)=_;rw[yb];omega
 rw[e]at a;exact a
def afd{L a:Lg}{f f':Int}{r:Rc}(h:GL L f)(b:GL a f')(l:CR L 12<=1073741824)(c:CR a 12<=1073741824)(hm:¬1099511627776<r.Ze)(n:∀i,i<12->(a i).is≠2\/mintsTs (a i).co=false->abL a i<=abL L i):∀d j:Nat,j+d=12->ttL (ttS L f a f' r (abS a j) (abS L j) j) 2 (ttQ L f a f' r (abS a 12) (abS L 12))
 | 0,j,e=>by
  obtain rfl:j=12:=od
  exact tt_end
 | d+1,j,e=>by
  have t:=afd (r:=r) h b l c hm n d (j+1) od;have p:=AbH.of b c j;have q:=AbH.of h l j;have z:=JJ b c j;have A:=JJ h l j;have x:=aeb b c j;have y:=aeb h l j;have u:IntKind.i64.wrap ((abS a j:Int)+(abL a j:Int))=(abS a (j+1):Int):=by rw[abS,yb];omega
  have v:IntKind.i64.wrap ((abS L j:Int)+(abL L j:Int))=(abS L (j+1):Int):=by rw[abS,yb];omega
  have g:¬1073741824<(if CR a 12<CR L 12 then CR L 12 else CR a 12):=by split<;>omega
  by_cases s:(abL L j:Int)<(abL a j:Int)
  .have k:(a j).is=2/\mintsTs (a j).co:=qb4 λk=>by
    have:=n j od (by
     by_cases o:(a j).is=2
     .right
      cases hm:mintsTs (a j).co with
      | true=>exact absurd ⟨o,hm⟩ k
      | false=>rfl
     .exact .inl o)
    omega
   have w:=(b.ac j od).ok.zc;have m:=H_mi _ (a j).co (jj _) od;unfold MiH at m;rw[k.2]at m;exact ae6 od p q m rfl g hm s k.1 u v t
  .exact ae4 od p q rfl g hm s u v t
def look{L:Lg}{f:Int}{b:Bt}(h:GL L f)(hb:pg b):sD L f (bn L f b).1 (bn L f b).2.1 b (bn L f b).2.2:=by
 have a:=l6 h hb;have c:=λi (n:i<12) m=>aen (i:=i) h hb n m;have d:=aem h hb;generalize bn L f b=z at a c d|-;have⟨L',f',r⟩:=z;dsimp only at a c d|-;have g:=ZR (mk:=((0:Nat):Int)) a;have j:=ZR (mk:=((0:Nat):Int)) h
 by_cases e:1073741824<(if CR L' 12<CR L 12 then CR L 12 else CR L' 12)
 .exact aeA (aeP g j rfl e)
 .by_cases k:1099511627776<r.Ze
  .exact aeA (ae5 g j rfl e k)
  .have g1:CR L 12<=1073741824/\CR L' 12<=1073741824:=by split at e<;>omega
   have l:=afd (r:=r) h a g1.1 g1.2 k c 12 0 rfl;have o:=JJ a g1.2 12;have p:=JJ h g1.1 12;refine afh (dl:=(abS L' 12:Int) - (abS L 12:Int)) l ?_ d;rw[yb];omega
def xY{bs:List Bt}(hb:su bs):Hd ⟨8,[vT bs],aQ true⟩:=by have a:=qR hb look;exact aF func8 [⟨_,a⟩]
end topTickets
end Go.Proofs.YtnamdihclpbdfaaGreat
namespace Go.Proofs.YtnamdihclpbdfaaGreat
set_option linter.all false
open Go.Proofs.Tryz
set_option maxRecDepth 100000
set_option maxHeartbeats 4000000
open Go.ChangeShapes Go.WideShapes Go.ChangeAt Go.RowKit
def cells24:prog.cellsOf 62=5:=oA
def cells3:prog.cellsOf 3=1:=oA
def cells9:prog.cellsOf 9=1:=oA
def cells22:prog.cellsOf 26=1:=oA
def l9{n:Int}(h:(Lit.int .i64 n).wf):bD n:=by simpa[Lit.wf,IntKind.min,IntKind.max,IntKind.signed,IntKind.bits,bD]using h
def uM{H:Type}(T:Nat->Tr)(D:Nat->DataW H):∀(n:Nat),(∀i,i<n->(T i).size<=Rows.uptoBulk (D i))->sizes ((List.range n).map T)<=Rows.uptoBulkAll ((List.range n).map D)
 | 0,_=>by simp[sizes,Rows.uptoBulkAll]
 | n+1,h=>by
  have d:=uM T D n (λi b=>h i od);have c:=h n od;have e:∀(l:List (DataW H)) (x:DataW H),Rows.uptoBulkAll (l++[x])=Rows.uptoBulkAll l+Rows.uptoBulk x:=by
   intro l x
   induction l with
   | nil=>simp[Rows.uptoBulkAll]
   | cons y l a=>simp[Rows.uptoBulkAll,a];omega
  rw[List.range_succ,qa0,qa0,sK,List.map_singleton,List.map_singleton,e];simp only[sizes];omega
def Dg{H:Type}(D:Nat->DataW H)(n i:Nat)(h:i<n):Rows.uptoBulk (D i)<=Rows.uptoBulkAll ((List.range n).map D):=by
 induction n with
 | zero=>omega
 | succ n c =>
  have e:∀(l:List (DataW H)) (x:DataW H),Rows.uptoBulkAll (l++[x])=Rows.uptoBulkAll l+Rows.uptoBulk x:=by
   intro l x
   induction l with
   | nil=>simp[Rows.uptoBulkAll]
   | cons y l a=>simp[Rows.uptoBulkAll,a];omega
  rw[List.range_succ,qa0,List.map_singleton,e]
  by_cases b:i=n
  .subst b;omega
  .have:=c od;omega
def JN{ok:br}{w:cg}{k n p:Int}{s:bp}(c:s.size<=maxLen)(hk:bD k)(hn:bD n)(b:bD p):bI ok w (.nd k n p s []) (af k n p s none 0 0) :=
 bI.mk (hk:=yv _) (args:=[]) (λ_=>.i 0) oe c hk hn b (λi a=>by simp at a) (λi a=>by simp at a)
def D6{H:Type}{enc:TypeId×cm->H}{W:cg}(N:Nat):∀(j:Nat) (cs:bo) (d:DataW H) (ps:List MemPlace),Rows.uptoBulk d<=N->DataW.trod enc prog W 0 (λ_=>true) true j 62 cs=some (d,ps) ->
 ∃k n p s a l c t,cs=[.i k,.i n,.i p,.string s,.slice a l c]/\bI (λ_=>True) W t (af k n p s a l c)/\t.size<=Rows.uptoBulk d:=by
 haveI:Inhabited Tr:=⟨.nd 0 0 0 ⟨#[]⟩ []⟩
 induction N with
 | zero =>
  intro j cs d ps J h;have⟨xs,n,_,G,_⟩:=DataW.trod_struct underlying62 h;simp only[ju]at G;rw[G.1]at J;simp[Rows.uptoBulk]at J
 | succ N ih =>
  intro j cs d ps J h;have⟨xs,f,_,G,v,P,E⟩:=DataW.trod_struct underlying62 h;rw[cells24]at v
  match xs,P,cs,v with
  | [y0,y1,y2,y3,y4],_,[v0,v1,v2,v3,v4],_ =>
   have U:=E 0 _ rfl;have g1:=E 1 _ rfl;have g2:=E 2 _ rfl;have V:=E 3 _ rfl;have X:=E 4 _ rfl;simp[cells3,cells9,cells22]at U g1 g2 V X;have⟨k,Q,x0,Y⟩:=jc2 underlying3 U;have⟨n,R,x1,Z⟩:=jc2 underlying3 g1;have⟨p,S,x2,i2⟩:=jc2 underlying3 g2;have⟨s,T,x3,i3⟩:=DataW.trod_string underlying9 V;simp only[qa5,and_true]at Q R S T;subst Q;subst R;subst S;subst T;subst x0;subst x1;subst x2;subst x3;simp only[ju]at G;obtain⟨rfl,_⟩:=G;rcases Go.Deep.open_slice underlying26 X with⟨z,x4⟩|⟨a,len,aa,m,nf,D,Pl,z,_,hl,hm,F,x4,C⟩
   .simp only[qa5,and_true]at z;subst z;refine⟨k,n,p,s,none,0,0,.nd k n p s [],rfl,JN i3 (l9 Y) (l9 Z) (l9 i2),?_⟩;simp[Tr.size,sizes,Rows.uptoBulk]
   .simp only[qa5,and_true]at z;subst z;subst x4;simp only[if_true]at F;subst F;rw[cells24]at C;simp only[qc0,qh5,Rows.uptoBulk,Rows.uptoBulkAll]at J|-;have M:∀i,i<len->Rows.uptoBulk (D i)<=N:=λi r=>by have:=Dg D len i r;omega
    have⟨q,K⟩:=Go.Deep.choose_lt (α:=Tr×cm) (n:=len) (p:=λi x=>bI (λ_=>True) W x.1 x.2/\x.1.size<=Rows.uptoBulk (D i) /\
     ∃k n p s y l c,x.2=af k n p s y l c/\W.cells? 0 (a.add (i*5)) 5=some [.i k,.i n,.i p,.string s,.slice y l c]) (λi r=>by
     have⟨L,h1,h2⟩:=C i od;obtain⟨k,n,p,s,y,l,c,t,rfl,I,hs⟩:=ih nf L (D i) (Pl i) (M i r) h2;exact⟨(t,af k n p s y l c),I,hs,k,n,p,s,y,l,c,rfl,h1⟩)
    have g:((List.range len).map λi=>(q i).1).length=len:=oe
    have I:=bI.mk (hk:=by rw[g];omega) (ok:=λ_=>True) (w:=W) (k:=k) (n:=n) (p:=p) (s:=s) (args:=(List.range len).map λi=>(q i).1) (a:=some a) (c:=m) (λi=>(q i).2) (by rw[g];omega) i3 (l9 Y) (l9 Z) (l9 i2)
     (λi r=>by
      rw[g]at r;have⟨_,_,k',n',p',s',y,l',c',hv,O⟩:=K i r;have⟨_,_,e⟩:=World.cells?_some O;have⟨b,o,sp⟩:=a;have h0:sp=none:=by have⟨_,_,k0,n0,p0,s0,a0,l0,c0,_,B⟩:=K 0 od;have⟨_,_,u⟩:=World.cells?_some B;have:=u 0 od;simp[Addr.add]at this;exact World.cell?_spot this
      subst h0;have A:∀x,(⟨b,o,none⟩:Addr).add x=⟨b,o+x,none⟩:=λx=>OR
      rw[A]at e;refine⟨b,o,rfl,trivial,k',n',p',s',y,l',c',hv,?_,?_,?_,?_,?_⟩
      .have:=e 0 od;simpa[Addr.add]using this
      .have:=e 1 od;simpa[Addr.add]using this
      .have:=e 2 od;simpa[Addr.add]using this
      .have:=e 3 od;simpa[Addr.add]using this
      .have:=e 4 od;simpa[Addr.add]using this)
     (λi r=>by rw[g]at r;simpa using (K i r).1)
    rw[g]at I;refine⟨k,n,p,s,some a,len,m,_,rfl,I,?_⟩;have ab:=uM (λi=>(q i).1) D len (λi r=>(K i r).2.1);rw[Tr.size];omega
open Pe (fI gm dU jm D)
def cells_op:prog.cellsOf 73=23:=oA
def cells_batch:prog.cellsOf 39=5:=oA
def cells_two:prog.cellsOf 71=10:=oA
def cells_ops:prog.cellsOf 37=1:=oA
def DF{α:Type}{R:α->cm->Prop} : ∀{xs:List α}{us:bo},dU R xs us->∀(j:Nat) (x:α),xs[j]?=some x->∃u,us[j]?=some u/\R x u
 | x::xs,u::us,⟨a,b⟩,0,y,e=>by simp only[kO,qq]at e;subst e;exact⟨u,rfl,a⟩
 | x::xs,u::us,⟨a,b⟩,j+1,y,e=>by simpa using DF b j y (by simpa using e)
def uj{α:Type}{R:α->cm->Prop} : ∀{a:List α}{x:bo}{b:List α}{y:bo},dU R a x->dU R b y->dU R (a++b) (x++y)
 | [],[],_,_,_,h=>h
 | _::_,_::_,_,_,⟨c,d⟩,h=>⟨c,uj d h⟩
section
variable {H:Type}{enc:TypeId×cm->H}{W:cg}
def yO{b:Nat}{cs:bo}{d:DataW H}{ps:List MemPlace}(h:DataW.trod enc prog W 0 (λ_=>true) true b 62 cs=some (d,ps)):∃t,okN t/\dU (fI (λ_=>True) W) (ndD t) cs/\t.size<=Rows.uptoBulk d:=by
 obtain⟨k,n,p,s,a,l,c,t,rfl,q,r⟩:=D6 _ b cs d ps (jj _) h;have⟨hk,f⟩:=LH q;refine⟨t,hk,?_,r⟩;have⟨tk,w,x,y,v⟩:=t;have⟨u,e,f⟩:=f
 match u,f with
 | [u1,u2,u3,u4,u5],⟨g,i,j,m,o,_⟩ =>
  simp only[af,ja5,jc3,qa5,and_true]at e;obtain⟨rfl,rfl,rfl,rfl,rfl⟩:=e;exact⟨g,i,j,m,o,trivial⟩
def GJ{α:Type}[Inhabited α]{T E:TypeId}{n B:Nat}{f:α->List D}{P:α->Prop}(hT:prog.underlying T=some (.slice E))(hE:prog.cellsOf E=n)(hn:0<n)(hf:∀x,(f x).length=n)
 (conv:∀(k:Nat) (cs:List Value) (d:DataW H) (ps:List MemPlace),Rows.uptoBulk d<=B->DataW.trod enc prog W 0 (λ_=>true) true k E cs=some (d,ps)->∃x,P x/\dU (fI (λ_=>True) W) (f x) cs)
 {k:Nat} {v:Value} {d:DataW H} {ps:List MemPlace} (hd:Rows.uptoBulk d<=B) (h:DataW.trod enc prog W 0 (λ_=>true) true k T [v]=some (d,ps)):∃l:List α,(∀x∈l,P x)/\fI (λ_=>True) W (.s n (l.map f)) v:=by
 rcases Go.Deep.open_slice hT h with⟨J,x4⟩|⟨aa,len,ad,m,nf,D,Pl,J,_,hl,hm,O,x4,N⟩
 .simp only[qa5,and_true]at J;subst J;exact⟨[],oe,fI.s (es:=[]) (a:=none) (c:=0) (λ_ _=>Value.i 0) (jj _) (yv _) oe oe oe (λe=>od)⟩
 .simp only[qa5,and_true]at J;subst J;simp only[ju]at x4;obtain⟨rfl,_⟩:=x4;simp only[if_true]at O;subst O;rw[hE]at N;simp only[Rows.uptoBulk]at hd;obtain⟨q,U⟩:=Go.Deep.choose_lt (α:=α×List Value) (n:=len) (p:=λi x=>P x.1/\dU (fI (λ_=>True) W) (f x.1) x.2/\W.cells? 0 (aa.add (i*n)) n=some x.2) (λi b=>by
   obtain⟨I,h1,h2⟩:=N i od;obtain⟨x,Z,Q⟩:=conv nf I (D i) (Pl i) (by have:=Dg D len i b;omega) h2
   exact⟨(x,I),Z,Q,h1⟩)
  have ab:((List.range len).map λi=>(q i).1).length=len:=oe
  have C:(((List.range len).map λi=>(q i).1).map f).length=len:=oe
  refine⟨(List.range len).map λi=>(q i).1,λx Z=>?_,?_⟩
  .obtain⟨i,b,rfl⟩:=kB.1 Z;exact (U i (List.mem_range.1 b)).1
  .have z:∀(i:Nat) (r:List Pe.D),(((List.range len).map λi=>(q i).1).map f)[i]?=some r->i<len/\r=f (q i).1:=λi r b=>by
    have g:i<len:=by have:=(qT.1 b).1;simpa using this
    refine⟨g,?_⟩;rw[qb0,qb0,List.getElem?_range g]at b;simpa using b.symm
   obtain⟨F,G,sp⟩:=aa;have X:0<len->sp=none:=λh0=>by obtain⟨_,_,M⟩:=U 0 h0;obtain⟨_,ae,o⟩:=World.cells?_some M;have:=o 0 hn;rw[qu od]at this;simp[Addr.add]at this;exact World.cell?_spot this
   have hs:=fI.s (ok:=λ_=>True) (w:=W) (n:=n) (es:=((List.range len).map λi=>(q i).1).map f) (a:=some ⟨F,G,sp⟩) (c:=m) (λi j=>((q i).2[j]?).getD (Value.i 0)) (by rw[C];exact hl) (by rw[C];omega) (λi r b=>by rw[(z i r b).2];exact hf _) (λi r j x b S=>?_) (λi r j x b S=>?_) (λe=>od)
   .rw[C]at hs;exact hs
   .obtain⟨g,rfl⟩:=z i r b;obtain⟨_,Q,L⟩:=U i g;obtain⟨u,Y,R⟩:=DF Q j x S;obtain⟨_,_,A⟩:=World.cells?_some L;have V:j<n:=by have:=(qT.1 S).1;rw[hf]at this;exact this
    obtain rfl:=X od;refine⟨F,G,rfl,trivial,?_⟩;have K:∀x,(⟨F,G,none⟩:Addr).add x=⟨F,G+x,none⟩:=λx=>OR
    have t:∀x y,(⟨F,G+x,none⟩:Addr).add y=⟨F,G+(x+y),none⟩:=λx y=>by rw[<-qg2];unfold Addr.add;split<;>simp_all
    have:=A j V;rw[K,t]at this;rw[this,Y];rfl
   .obtain⟨g,rfl⟩:=z i r b;obtain⟨_,Q,L⟩:=U i g;obtain⟨u,Y,R⟩:=DF Q j x S;rw[Y];exact R
instance:Inhabited lI:=⟨alO⟩
instance:Inhabited Bt:=⟨alB⟩
def acH(e:Nat)(cs:bo)(d:DataW H)(ps:List MemPlace)(w:Rows.uptoBulk d<=2000000)(h:DataW.trod enc prog W 0 (λ_=>true) true e 73 cs=some (d,ps)):∃o,Ch o/\dU (fI (λ_=>True) W) (wO o) cs:=by
 have⟨Q,f,_,z,b,g,c⟩:=DataW.trod_struct underlying73 h;rw[cells_op]at b
 match Q,g,cs,b with
 | [(d0,p0),(d1,p1),(d2,p2),(d3,p3),(d4,p4),(d5,p5)],_,[v0,v1,v2,v3,v4,v5,v6,v7,v8,v9,v10,v11,v12,v13,v14,v15,v16,v17,v18,v19,v20,v21,v22],_ =>
  have r:=c 0 _ rfl;have g1:=c 1 _ rfl;have g2:=c 2 _ rfl;have s:=c 3 _ rfl;have t:=c 4 _ rfl;have u:=c 5 _ rfl;simp[cells3,cells24,cells_two]at r g1 g2 s t u;have⟨k,l,x0,U⟩:=jc2 underlying3 r;have⟨n,p,x1,V⟩:=jc2 underlying3 g1;have⟨a,q,x2,X⟩:=jc2 underlying3 g2;have⟨B,F,K,s3⟩:=yO s;have⟨C,G,L,s5⟩:=yO u;have⟨R,m,_,A,_,j,y⟩:=DataW.trod_array underlying71 t
  match R,j with
  | [(S,Y),(T,Z)],_ =>
   have D:=y 0 ot;have E:=y 1 ot;simp[cells24]at D E;have⟨O,I,M,s6⟩:=yO D;have⟨P,J,N,s7⟩:=yO E;simp only[ju]at z A;rw[z.1]at w;simp only[qc0,qh5,Rows.uptoBulk,Rows.uptoBulkAll,A.1]at w;simp only[qa5,and_true]at l p q;subst l;subst p;subst q;refine⟨⟨k,n,a,B,O,P,C⟩,⟨I,J,G,F,by show C.size<=3000000;omega,by show B.size<=4611686018427387903;omega⟩,?_⟩;exact uj (x:=[.i k,.i n,.i a]) ⟨.v _,.v _,.v _,trivial⟩ (uj K (uj M (uj N L)))
def Ug(e:Nat)(cs:bo)(d:DataW H)(ps:List MemPlace)(t:Rows.uptoBulk d<=2000000)(h:DataW.trod enc prog W 0 (λ_=>true) true e 39 cs=some (d,ps)):∃b:Bt,(∀o∈b.ops,Ch o)/\dU (fI (λ_=>True) W) (wo b) cs:=by
 have⟨B,f,_,u,a,i,g⟩:=DataW.trod_struct underlying39 h;rw[cells_batch]at a
 match B,i,cs,a with
 | [(C,M),(D,N),(F,p2),(G,O),(x,Q)],_,[R,S,U,V,X],_ =>
  have p:=g 0 _ rfl;have g1:=g 1 _ rfl;have g2:=g 2 _ rfl;have q:=g 3 _ rfl;have r:=g 4 _ rfl;simp[cells3,cells_ops]at p g1 g2 q r;have⟨s,j,Y,I⟩:=jc2 underlying3 p;have⟨c,k,Z,J⟩:=jc2 underlying3 g1;have⟨y,m,x2,K⟩:=jc2 underlying3 g2;have⟨w,n,x3,L⟩:=jc2 underlying3 q;simp only[ju]at u;rw[u.1]at t;simp only[qc0,qh5,Rows.uptoBulk,Rows.uptoBulkAll]at t;have⟨l,z,A⟩:=GJ (T:=37) (E:=73) (P:=Ch) (f:=wO) underlying37 cells_op ot aaL acH (show Rows.uptoBulk x<=2000000 by omega) r;simp only[qa5,and_true]at j k m n;subst j;subst k;subst m;subst n;exact⟨⟨s,c,y,w,l⟩,z,.v _,.v _,.v _,.v _,A,trivial⟩
def aap(b:Bt):(wo b).length=5:=rfl
def nS{r:Reach}{i:Nat}{v:cm}{d:DataW H}{p:List MemPlace}(k:Rows.uptoBulk d<=2000000)(h:DataW.Trod enc prog W 0 (λ_=>true) true 22 v d p)(q:Value.okWide prog W r i 22 v) :
 ∃bs:List Bt,su bs/\gm (λ_=>none) (λ_=>True) W (vT bs) v:=by
 obtain⟨a,l,c,rfl⟩:=okWide_slice underlying22 q;have⟨e,m⟩:=h;have g:DataW.trod enc prog W 0 (λ_=>true) true e 22 [.slice a l c]=some (d,p):=m;have⟨bs,j,n⟩:=GJ (T:=22) (E:=39) (P:=λb:Bt=>∀o∈b.ops,Ch o) (f:=wo) underlying22 cells_batch ot aap Ug k g;exact⟨bs,j,n⟩
end
end Go.Proofs.YtnamdihclpbdfaaGreat
namespace Go.Proofs.YtnamdihclpbdfaaGreat.topTickets
set_option linter.all false
open Go.Proofs.Tryz
set_option maxRecDepth 100000
set_option maxHeartbeats 4000000
open Go.ChangeShapes Go.WideShapes Go.ChangeAt Go.RowKit
open Pe (fI gm dU iZ)
def own:ownKnob prog.godebug=none:=oA
def laidOut:laidOutB prog:=oA
def PY{w w':cg}(h:cq w w' none):Below w.heap.size w w':=⟨h.os,h.tape,h.output,h.size,λk a=>h.block k a oe⟩
def contract(H:Type)(enc:TypeId×cm->H)(W:cg)(c:Nat)(args:Array cm)(ds l:List (DataW H))(a:List MemPlace)
 (hval:∀(j:Nat) t v,f8.params[j]?=some t->args[j]?=some v->Value.okWide prog W .any c t v)
 (hW:DataW.Whole enc prog f8.params.toList Rows.topTicketsSpec.vars false W args.toList ds l a) (hk:Rows.uptoSmall H (ds++l)) :
 Calls prog 8 args W λe k=>∃v,e =.returned v/\Rows.topTicketsSpec.post enc prog f8 false true false false W args v k:=by
 have b:=hW;obtain⟨p,q,hA0,w,rfl,A,C⟩:=hW;have n:DataW.TrodAll enc prog W 0 (λ_=>true) true f8.params.toList args.toList ds p:=hA0;rw[params8]at n hval;obtain⟨i,I,J,s,r,K,f,rfl,rfl,m,G⟩:=trodAll_cons n;obtain⟨rfl,rfl,rfl⟩:=trodAll_nil G;obtain rfl:args=#[i]:=by cases args;simp_all
 obtain⟨rfl,rfl⟩:=trodVars_none w;have y:=qf7 hk;simp only[qc4,Rows.uptoBulkAll]at y;have⟨bs,g,D⟩:=nS od m (hval 0 22 i rfl rfl);clear hA0;simp only[qc4]at b;have d:∀x∈r,x.block<W.heap.size:=λx F=>b.lt x (by simp[F]);have u:=(xY g).runN rfl (λ_=>True) W [i] ⟨D,trivial⟩;refine u.mono λe k ⟨B,v,z,E⟩=>?_;obtain rfl:=Pe.bW E;subst z;have o:=PY B;exact⟨_,rfl,_,_,_,[],r++[],[],b,trodAll_cons_mk (shut_bool underlying4 _) trodAll_mk0,trodAll_cons_mk (Below.trod laidOut oA (qf7 oA) m o d) trodAll_mk0,rfl,o.frame _,λh=>by cases h⟩
def lifted(os:Os)(a:os.Started)(H:Type)(enc:TypeId×cm->H)(F:Stop.Interp) :
 ReturnsInHanded {} checked os 8 .any ((Rows.OpenSpec.upto Rows.topTicketsSpec).pre6 enc prog f8 Rows.topTicketsUptoRow.domain false) (((Rows.OpenSpec.upto Rows.topTicketsSpec).at F).post enc prog f8 false true false false):=by
 refine returnsInHanded_of_cond (C:=checked) (s:=Rows.OpenSpec.upto Rows.topTicketsSpec) (k:=Rows.uptoSmall) rfl own a oA func8
  (OpenSpec.witness (enc:=enc) (C:=checked) (s:=Rows.OpenSpec.upto Rows.topTicketsSpec) (k:=Rows.uptoSmall) rfl false ⟨#[],#[.n0],[]⟩ 8 oA oA oA
   (x:=([.nil],[],[])) oA rfl oA) ?_
 intro W d c f g b e hW _ h _;exact contract H enc W d c f g b e hW h
def over:Rows.topTicketsUptoRow.holds Tryz.pinned (Rows.OpenSpec.upto Rows.topTicketsSpec) :=
 OpenClaim.holds_of_cond 8 f8 rfl rfl rfl rfl rfl rfl rfl ⟨rfl,rfl,rfl,rfl,rfl⟩ rfl rfl rfl rfl rfl oA func8 oA
  (qf7 oA) (by unfold Func.isWrapper;first|(rw[if_pos vx];kernel_rfl)|(rw[if_neg vx];exact⟨rfl,rfl⟩))
  (λb a H enc _ F=>lifted b a H enc F)
end Go.Proofs.YtnamdihclpbdfaaGreat.topTickets
namespace Go.Proofs.YtnamdihclpbdfaaGreat
set_option linter.all false
open Go.Proofs.Tryz
set_option maxRecDepth 100000
set_option maxHeartbeats 4000000
theorem topTickets_holds:Rows.TopTicketsUptoSaid:=topTickets.over
#print axioms topTickets_holds
