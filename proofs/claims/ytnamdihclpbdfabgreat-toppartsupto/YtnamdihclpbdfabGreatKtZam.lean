import Derived.RangeFuncNested
import Derived.RangeFuncBound
import Derived.RangeFuncCalls
import Derived.RangeFuncLeaves
import Derived.RangeFuncBox
import Derived.Shelf.Abstract
import Derived.Shelf.RegionOpen
import Derived.OwnWalkIn
import Derived.TacticsInMore
import Derived.LoopNIn
import Derived.LoopIn
import Derived.Test.YtnamdihclpbdfabGreatKtZal
import Derived.Deep.QuietTactic
import Derived.BigQuiet
import Derived.Lib.Mul64
import Derived.Laws.Bits64b
namespace Go.Proofs.YtnamdihclpbdfabGreat
set_option linter.all false
open Go.Proofs.Tryz
open Go.ChangeShapes Go.WideShapes Go.ChangeAt Go.RowKit Go.Shelf
set_option maxRecDepth 100000
set_option maxHeartbeats 2000000
attribute [local go_sem] Oper.semAt_some
def YP (Bs b:Nat) (W W':cg):Prop:=∀o,W'.cell? ⟨Bs,o,none⟩=W.cell? ⟨Bs,o,none⟩/\W'.cell? ⟨b,o,none⟩=W.cell? ⟨b,o,none⟩
section
variable {α:Type}{encs:α->Array cm}
def PX(F:Fence)(n:Nat)(h1:F.fn 248)(B:F.round=none)(hn:1<=n)(l u b t cap:Nat)(V:bt)(xs:List α)(O:xs.length<=100000000)(s:∀r (h:r<xs.length),encs xs[r]=#[.i ((xs.length - 1 - r:Nat):Int),V (xs.length - 1 - r)])(J C:List α->cg->Prop)
 (hY:∀pre x W,J pre W->pre.length<xs.length->YieldAt F (n - 1) prog l (encs x) W λe c=>(e =.returned (.bool true)/\J (pre++[x]) c/\YP u b W c)\/(e =.returned (.bool false)/\C (pre++[x]) c))
 (W:cg) (hBs:W.cell? ⟨u,0,none⟩=some (.slice (some ⟨b,t,none⟩) xs.length cap)) (hc:∀j,j<xs.length->AX (λ_=>True) W (some ⟨b,t,none⟩) j (V j)) (h0:J [] W) :
 CallsIn F n prog 248 #[.func (.yield l) #[] #[],.po u] W λe c=>(∃v,e =.returned v)/\((∃ys,ys=xs/\J ys c)\/(∃pre,(∃k,k<=xs.length/\pre=xs.take k)/\C pre c)):=by
 refine callsIn_of_wp func248 rfl h1 ?_ B;simp only[ntmps248,jd5,jj,qa0,Nat.reduceAdd,Nat.reduceSub,ka7,ka6,List.push_toArray,List.append_toArray,qe4,qe0];have ad:wrap64 ((xs.length:Int) - 1)=(xs.length:Int) - 1:=by unfold wrap64;omega
 gi_wp2
 gi_loopw [3] (λi wr=>∃k:Nat,k<=xs.length/\i =.i ((xs.length:Int) - 1 - k)/\J (xs.take k) wr/\YP u b W wr) (λi _=>(intOf i+1).toNat)
 case atStart=>exact⟨0,yb _,oe,h0,λ_=>⟨rfl,rfl⟩⟩
 case round =>
  obtain⟨k,hk,rfl,d,a⟩:=hrel;have N:=(a 0).1.trans hBs
  by_cases p:k<xs.length
  .have⟨fn,P,w,D,y,hR⟩:=hY (xs.take k) xs[k] wr d vl;rw[s k p]at y;have⟨bb,oo,eb,_,k1,n1,a1,s1,aa,al,ac,ta,tl,tc,na,nl,nc,Z,E,G,H,I,K,L,M⟩:=hc (xs.length - 1 - k) od;cases eb;rw[Z]at y;unfold bg at y;have Q:=(a _).2.trans E;have R:=(a _).2.trans G;have S:=(a _).2.trans H;have T:=(a _).2.trans I;have U:=(a _).2.trans K;have X:=(a _).2.trans L;have Y:=(a _).2.trans M;have⟨q,hq⟩:∃q:Nat,xs.length - 1 - k=q:=⟨_,rfl⟩;have A:(xs.length:Int) - 1 - k=(q:Int):=by omega
   have ab:q<xs.length:=od
   rw[hq]at y Q R S T U X Y;rw[A];clear E G H I K L M hc s hBs;have ae:wrap64 ((q:Int) - 1)=(q:Int) - 1:=by unfold wrap64;omega
   have g:xs.take (k+1)=xs.take k++[xs[k]]:=by rw[jc1,qt p];rfl
   gi_wp2
   refine hR.mono ?_;rintro e W3 (⟨rfl,z,m⟩|⟨rfl,f⟩)
   .gi_wp2
    go_roundw
    case rel=>exact⟨k+1,od,by congr 1;omega,by rw[g];exact z,λo=>⟨(m o).1.trans (a o).1,(m o).2.trans (a o).2⟩⟩
    case measure=>simp[intOf]
   .gi_wp2
    refine jb3 (results_none rfl _ _ _) rfl ?_;exact⟨⟨_,rfl⟩,.inr ⟨_,⟨k+1,od,g.symm⟩,f⟩⟩
  .obtain rfl:k=xs.length:=by omega
   gi_wp2
   go_end0
   exact⟨⟨_,rfl⟩,.inl ⟨_,rfl,by simpa using d⟩⟩
def aef(F:Fence)(n:Nat)(j:F.fn 248)(d:F.round=none)(l f c:Nat)(a:bj)(J:List α->cg->Prop)(W:cg)(k:W.cell? ⟨f,0,none⟩=some (.slice a 0 c))(h:J [] W) :
 CallsIn F n prog 248 #[.func (.yield l) #[] #[],.po f] W λe g=>(∃v,e =.returned v)/\J [] g:=by
 refine callsIn_of_wp func248 rfl j ?_ d;simp only[ntmps248,jd5,jj,qa0,Nat.reduceAdd,Nat.reduceSub,ka7,ka6,List.push_toArray,List.append_toArray,qe4,qe0]
 gi_wp2
 gi_loopw [3] (λi wr=>i =.i (-1)/\J [] wr) (λ_ _=>0)
 case atStart=>exact⟨rfl,h⟩
 case round =>
  obtain⟨rfl,b⟩:=hrel
  gi_wp2
  go_end0
  exact⟨⟨_,rfl⟩,b⟩
def TJ(F:Fence)(n:Nat)(d:F.fn 234)(c:F.round=none)(a:bj)(b cap:Nat)(w:cg) :
 CallsIn F n prog 234 #[.slice a b cap] w λe w'=>e =.returned (.func (.func 248) #[] #[.po (w.heap.size)])/\w'=w.alloc (.cells #[.slice a b cap] 26):=by
 refine callsIn_of_wp func234 rfl d ?_ c;simp only[ntmps234,jd5,jj,qa0,Nat.reduceAdd,Nat.reduceSub,ka7,ka6,List.push_toArray,List.append_toArray,qe4,qe0]
 gi_wp2
 go_ret;exact⟨rfl,rfl⟩
def Je(F:Fence)(n:Nat)(y:F.fn 248)(m:F.round=none)(hn:1<=n)(d b c:Nat)(a:bj)(V:bt)(xs:List α)(g:xs.length<=100000000)(u:∀r (h:r<xs.length),encs xs[r]=#[.i ((xs.length - 1 - r:Nat):Int),V (xs.length - 1 - r)])
 (w:cg) (hb:xs≠[]->∀q o,a=some ⟨q,o,none⟩->b=q) (hsz:d<w.heap.size) (hBs:w.cell? ⟨d,0,none⟩=some (.slice a xs.length c)) (hc:∀j,j<xs.length->AX (λ_=>True) w a j (V j)) :
 SeqStopsK F n prog 248 #[.po d] encs (YP d b) (λys=>ys=xs) (λpre=>∃k,k<=xs.length/\pre=xs.take k) xs.length w:=λl J z W hW _ _ A v=>by
 have f:=(hW.cell (p:=⟨d,0,none⟩) hsz).trans hBs
 cases xs with
 | nil=>exact (aef F n y m l d c a J W f v).mono λe C ⟨B,s⟩=>⟨B,.inl ⟨_,rfl,s⟩⟩
 | cons x r =>
  obtain⟨q,o,rfl,_⟩:=hc 0 oe;have:=hb oe q o rfl;subst this;exact PX F n y m hn l d b o c V (x::r) g u J z A W f (λj s=>(hc j s).same λq o _ t=>hW.cell (p:=⟨q,o,none⟩) t) v
end
set_option maxHeartbeats 400000
attribute [local go_sem] Oper.semAt_some
abbrev Item (O:br) (w:cg):={ p:Nat×Va×cm // aA (λb=>¬O b) w p.2.1 p.2.2/\p.2.1.size<=20000000 }
def encI {O:br}{w:cg}(x:Item O w):Array cm:=#[.i (x.1.1:Int),x.1.2.2]
def vQ {O:br}{w:cg}(l:List (Item O w)):ao:=l.map λx=>x.1.2.1
def Ag{α:Type}{n:Nat}{Kp:cg->cg->Prop}{I:List α->cg->Prop}{b:Code->List α->cg->Prop}{xs:List α}{W a:cg}{A:Act}(c:KeepsFrom n W a)(d:Kp W a)(e:I xs a):ownPostG n Kp I b xs W .normal A a:=⟨c,d,e⟩
def OL{O:br}{w:cg}(l:List (Item O w))(x:Item O w):vQ (l++[x])=vQ l++[x.1.2.1]:=by unfold vQ;rw[ux];rfl
def dB.zB{O c:br}{w A A':cg}{row:Option Nat}(h:dB O w c A)(a:cq A A' row)(g:∀r,row=some r->w.heap.size<=r):dB O w c A' :=
 ⟨a.os.trans h.os,a.tape.trans h.tape,a.output.trans h.output,xo h.size a.size,λb d f=>(a.block b (kh d h.size) (λe=>by have:=g b e.symm;omega)).trans (h.block b d f),h.new⟩
def Src.one{O:br}{w:cg}{y:Va}{k n a:Int}{s:bp}{c:bj}{al ac:Nat}{ta:bj}{tl tc:Nat}{na:bj}{d nc:Nat}{T:TypeId}(h:aA (λb=>¬O b) w y (bg k n a s c al ac ta tl tc na d nc)) :
 Src O (w.alloc (.cells #[.i k,.i n,.i a,.string s,.slice c al ac,.slice ta tl tc,.slice na d nc] T)) [y] (.o (w.heap.size) 1 1):=by
 refine⟨[bg k n a s c al ac ta tl tc na d nc],?_,rfl,λi x u e f=>?_⟩
 .have:=gZ.new w T #[.i k,.i n,.i a,.string s,.slice c al ac,.slice ta tl tc,.slice na d nc] 1 1;simpa[flat,nodeCells,bg]using this
 .cases i with
  | zero =>
   simp only[km,qq]at e f;subst e;subst f;exact (dB.grow (O:=O) (aK _)).lies h
  | succ i=>simp at e
def ma{w:cg}{b:Nat}{T:TypeId}{x:cm}(h:w.heap[b]?=some (.cells #[x] T)):w.cell? ⟨b,0,none⟩=some x:=by simp[World.cell?,h]
def We{w:cg}{b:Nat}{T:TypeId}{x:cm}(h:w.heap[b]?=some (.cells #[x] T)):w.frozen? ⟨b,0,none⟩=false:=by simp[World.frozen?,h]
def LP{w:cg}{b:Nat}{T:TypeId}{x:cm}(h:w.heap[b]?=some (.cells #[x] T)):¬ay w b:=by rintro⟨cs,e,d,a,c⟩;rw[h]at a;cases a;simp at c
def NB{O c:br}{X Y:cg}(h:dB O X c Y)(hc:∀b,O b->∃cs e,X.heap[b]?=some (.cells cs e))(n:Nat):KeepsFrom n X Y :=
 ⟨h.size,λk o _ a f=>(h.block k (kj.1 a).1 (λd=>by have⟨cs,e,g⟩:=hc k d;rw[g]at a;cases a;cases f)).trans a⟩
section
variable {B:Nat}{O:br}{w:cg}{mb:Nat}{en:En}{aC:Int}{m:Ma}
def Fh{l:ao}{I:bj}{c:Nat}{V:bt}(h:dm B O w mb en aC m)(hl:aT (λb=>¬O b) w l I V)(hz:vsizes l<=20000000)(bh:m.st.length+l.length<=100000000):Calls prog 209 #[.po mb,.slice I l.length c] w (jK B O w mb en aC (bz m l)):=by
 refine (callsIn_wide (n:=5)).1 ?_;refine callsIn_of_wp_marks func209 rfl trivial ?_ rfl;simp only[ntmps209,jd5,jj,qa0,Nat.reduceAdd,Nat.reduceSub,ka7,ka6,List.push_toArray,List.append_toArray,qe4,qe0]
 gi_wp2_with (refine⟨trivial,?_⟩;gi_at_call 234;refine (TJ Fence.wide _ trivial rfl _ _ _ _).mono ?_;rintro e w' ⟨rfl,rfl⟩)
 have⟨p,z⟩:∃p,((w.alloc (.cells #[.po mb] 215)).alloc (.cells #[.i 0] 40)).alloc (.cells #[.slice I l.length c] 26)=p:=⟨_,rfl⟩;rw[z];have F:cq w p none:=by rw[<-z];exact aJ (aJ (aK _) (aK _)) (aK _)
 have ah:p.heap.size=w.heap.size+3:=by rw[<-z];simp
 have hA2:p.cell? ⟨w.heap.size,0,none⟩=some (.po mb):=by rw[<-z];exact kNq (aJ (aK _) (aK _)) (ma (xF w _))
 have hA4:p.heap[w.heap.size+1]?=some (.cells #[.i 0] 40):=by rw[<-z];have:=xF (w.alloc (.cells #[.po mb] 215)) (.cells #[.i 0] 40);rw[qh0]at this;exact mH this (aK _)
 have ak:p.cell? ⟨w.heap.size+1+1,0,none⟩=some (.slice I l.length c):=by rw[<-z];have:=xF ((w.alloc (.cells #[.po mb] 215)).alloc (.cells #[.i 0] 40)) (.cells #[.slice I l.length c] 26);rw[qh0,qh0]at this;exact ma this
 have ab:aT (λb=>¬O b) p l I V:=(dB.grow (O:=O) F).U5 hl;have ar:=h.grow F;have g:∀b,w.heap.size<=b->¬O b:=λb hb L=>by have:=h.high b L;omega
 have⟨b,bb,Y⟩:∃b,(l≠[]->∀q o,I=some ⟨q,o,none⟩->b=q)/\b<p.heap.size/\¬O b:=by
  cases l with
  | nil=>exact⟨w.heap.size,λh=>absurd rfl h,od,g _ (jn _)⟩
  | cons x r =>
   have⟨q,o,e,hq,k,n,a,s,aa,al,ac,ta,tl,tc,na,nl,nc,_,h0,_⟩:=hl.2.1 0 oe;exact⟨q,λ_ q' o' e'=>by rw[e]at e';cases e';rfl,by have:=qc0 w _ h0;simp only at this;omega,hq⟩
 have⟨R,bn,bm,N⟩:∃R:List (Item O p),R.length=l.length/\(∀r (h:r<R.length),encI R[r]=#[.i ((R.length - 1 - r:Nat):Int),V (R.length - 1 - r)])/\vQ R=l.reverse:=by
  refine⟨List.ofFn λr:Fin l.length=>⟨(l.length - 1 - r.1,l[l.length - 1 - r.1],V (l.length - 1 - r.1)),ab.2.2 _ od,xo (fO (yv od)) hz⟩,oe,λr h=>by simp[encI],?_⟩;apply List.ext_getElem
  .simp[vQ]
  .intro i f d;simp[vQ]
 refine wpIn_rangeFunc_ownH rfl ov (gf:=248) (lb:=#[.po (w.heap.size+1+1)]) rfl trivial (enters_of func248 oA rfl)
  (Je (encs:=encI) Fence.wide 4 trivial rfl ov (w.heap.size+1+1) b c I V R od bm p (λhx q o e=>bb (λe2=>hx (jx (by rw[bn,e2];rfl))) q o e) od (by rw[bn];exact ak) (λj hj=>(ab.2.1 j od).ae λ_ _ _=>trivial))
  (λf d o=>⟨(d o).1.trans (f o).1,(d o).2.trans (f o).2⟩) (λW l o o' hl h _ _ q=>by have C:=grownBy_putObj' W l o';have ad:=(kj.1 h).1;exact⟨kd (C.block (w.heap.size+1+1) od ot),kd (C.block b od ot)⟩) (Below.refl _ _) (λ_=>rfl)
  (λpre W=>(∃O',dm B O' W mb en aC { m with st:=(vQ pre).reverse++m.st }/\dB O p O' W)/\(vQ pre).any yN=false)
  (λcd pre W=>cd =.ret/\(vQ pre).any yN/\W.cell? ⟨w.heap.size+1,0,none⟩=some (.i 13)/\∃O' m',m'.paid=m.paid/\m'.said=m.said/\dm B O' W mb en aC m'/\dB O w O' W)
  ?own ?ownx ⟨⟨O,ar,dB.refl _ _⟩,rfl⟩
  (λx a' W=>∃Bx k n a s aa al ac ta tl tc na nl nc,p.heap.size<=Bx/\x.1.2.2=bg k n a s aa al ac ta tl tc na nl nc/\W.heap[Bx]?=some (.cells #[.i k,.i n,.i a,.string s,.slice aa al ac,.slice ta tl tc,.slice na nl nc] 29) /\
   a' = { tmps:=#[.po mb,.slice I l.length c,.po (w.heap.size),undef,.po (w.heap.size+1),undef,.po Bx,.slice I l.length c,.func (.func 248) #[] #[.po (w.heap.size+1+1)],.i (x.1.1:Int),x.1.2.2,undef,undef,undef,undef,undef,undef,undef],defers:=[] })
  ?ownA ?assign ?body ?done ?stop
 case own =>
  rintro pre A A' row ⟨⟨O',f,d⟩,t⟩ C H;exact⟨⟨O',f.turn C λr e=>f.no (H r e).2,d.zB C λr e=>(H r e).1⟩,t⟩
 case ownx =>
  rintro cd pre A A' row ⟨f,d,t,O',m',h4,h5,h6,h7⟩ C H;exact⟨f,d,(cell_kept t C λr e=>(H r e).2),O',m',h4,h5,h6.turn C λr e=>h6.no (H r e).2,h7.zB C λr e=>by have:=(H r e).1;omega⟩
 case ownA =>
  rintro x a' _ A A' row ⟨Bx,k,n,a,s,aa,al,ac,ta,tl,tc,na,nl,nc,f,d,t,h4⟩ C H;exact⟨Bx,k,n,a,s,aa,al,ac,ta,tl,tc,na,nl,nc,f,d,(Cx C (λr e=>DZ (H r e).2) ⟨_,_,_,t,oe⟩).trans t,h4⟩
 case assign =>
  rintro lo pre ⟨⟨ix,y,v⟩,hL,aj⟩ W K ⟨⟨O',f,d⟩,t⟩ hK;obtain⟨k,n,a,s,aa,al,ac,ta,tl,tc,na,nl,nc,rfl⟩:=hL.bg;dsimp only[encI,bg]
  gi_wp2
  refine hK _ _ ((KeepsOthers.alloc _ _).from _) (λo=>⟨?_,?_⟩) ⟨⟨O',f.grow (aK _),d.trans (dB.grow (aK _))⟩,t⟩ ⟨W.heap.size,k,n,a,s,aa,al,ac,ta,tl,tc,na,nl,nc,d.size,rfl,xF _ _,rfl⟩
  .exact kd ((aK _).block (w.heap.size+1+1) (by have:=d.size;omega) oe)
  .exact kd ((aK _).block b (by have:=d.size;omega) oe)
 case body =>
  rintro lo pre ⟨⟨ix,y,v⟩,hL,aj⟩ a' W ck ⟨r,H⟩ ⟨⟨O',f,d⟩,t⟩ ⟨Bx,k,n,a,s,aa,al,ac,ta,tl,tc,na,nl,nc,cp,ev,bc,rfl⟩ cn;dsimp only at hL aj ev;subst ev;have U:=d.lies hL;have HS:=jh (RL (U.ae (ok':=λ_=>True) λ_ _ _=>trivial) aj W (bf _ _));have q2:=(kd (d.block w.heap.size od (g _ (jn _)))).trans hA2;have Q:=(d.block (w.heap.size+1) od (g _ od)).trans hA4;have KB:=λ(w':cg) (h:cq W w' none)=>And.intro (cO (mH bc h)) (And.intro (kNq h q2) (And.intro (ma (mH Q h)) (We (mH Q h))));have M:¬O' (w.heap.size+1):=λL=>by rcases d.new _ L with h|h;exact g _ od h;omega
  have az:¬O' (w.heap.size+1+1):=λL=>by rcases d.new _ L with h|h;exact g _ od h;omega
  have ax:¬O' b:=λL=>by rcases d.new _ L with h|h;exact Y.2 h;omega
  have cr:cq W W none:=bf _ _;unfold bg at HS
  by_cases hb:200<wrap64 (vsum y:Nat)
  .gi_wp2_with (refine⟨trivial,?_⟩;gi_at_call 96;refine (CallsIn.inRound lo (callsIn_wide.2 HS)).mono ?_;rintro e w1 ⟨rfl,u⟩)
   have k4:=mH Q u;have E:cq w1 (w1.setCell ⟨w.heap.size+1,0,none⟩ (.i 13)) (some (w.heap.size+1)):=eF (bf _ _) _ _ _;refine⟨(KeepsFrom.of_grownBy u (λj e=>by cases e)).trans ((KeepsOthers.setCell _ _ _).from _),rfl,by simp[vQ,yN,hb],World.cell?_setCell_same' _ _ _ (by rw[ma k4];rfl),O',{ m with st:=(vQ pre).reverse++m.st },rfl,rfl,(f.grow u).turn E (λr e=>by cases e;exact⟨LP k4,M⟩),(((dB.grow F).trans d).trans (dB.grow u)).zB E (λr e=>by cases e;omega)⟩
  .have G:((vQ pre).reverse++m.st).length+[y].length<=100000000:=by simp[vQ];omega
   have⟨HM,H1,H2,H3,cc,cb,bq,ch⟩:=wj (λ(w1:cg) (hS:cq W w1 none)=>Ha (l:=[y]) ((f.grow hS).grow (aK _)) (Src.one (T:=29) ((dB.grow (O:=O') hS).lies U)) G) f d t az ax Y ah;generalize aO:ownPostG _ _ _ _ _ _=QQ;have cf:=jh aO;clear aO;clear f d t U az ax Y ah H ck bc q2 Q M hA2 hA4 ak ab ar g bb bm N F z hl hz bh G h
   gi_wp2_with (first
    | (refine⟨trivial,?_⟩;gi_at_call 96;refine (CallsIn.inRound lo (callsIn_wide.2 HS)).mono ?_;rintro e w1 ⟨rfl,u⟩)
    | (refine⟨trivial,?_⟩;gi_at_call 188;have bk:=CallsIn.inRound lo ((callsIn_wide (n:=2)).2 (HM w1 u));refine bk.mono ?_;clear bk HM HS;rintro e w2 ⟨rfl,O2,an,J⟩;have bx:=jh an;have ca:=jh J;clear an J;refine qa4 λbl=>?_))
   apply bl;clear bl;rename_i K1 aq;refine aq _ _ ?_;clear aq
   gi_wp2
   rw[<-cf.out];have J:=ca.out;have hF:dB O' W O2 w2:=((dB.grow u).trans (dB.grow (aK _))).trans bx;have d:=H2.out;have t:=H3.out;have ah:=ch.out;have ad:w.heap.size+1+1<W.heap.size/\b<W.heap.size:=by have:=d.size;have:=bq.out.1;omega
   have g1:KeepsFrom p.heap.size W w2:=NB hF (dm.cells H1) _;have g2:YP (w.heap.size+1+1) b W w2:=λo=>⟨kd (hF.block (w.heap.size+1+1) ad.1 cc),kd (hF.block b ad.2 cb)⟩;have g4:=d.trans hF;have g5:yN y=false:=xb od;have g6:∀x:Item O p,x.1.2.1=y->(∃O',dm B O' w2 mb en aC { m with st:=(vQ (pre++[x])).reverse++m.st }/\dB O p O' w2)/\(vQ (pre++[x])).any yN=false:=λx e=>by
    rw[OL,e];refine⟨⟨O2,?_,g4⟩,?_⟩
    .rw[qg5,qa6];exact J
    .rw[List.any_append,t,List.any_cons,List.any_nil,g5];rfl
   exact Ag g1 g2 (g6 _ rfl)
 case done =>
  rintro D ys W hD rfl ⟨⟨O',f,d⟩,t⟩ hK;have Q:=(d.block (w.heap.size+1) od (g _ od)).trans hA4;have z0:=ma Q;have z1:=We Q
  gi_wp2
  have S:=(KeepsOthers.setCell W ⟨w.heap.size+1,0,none⟩ (.i 0)).same D _ hK rfl;refine⟨oe,.inl ⟨_,_,rfl,run_takeDeferred S,?_⟩⟩;have Z:=cell_kept (World.cell?_setCell_same' W ⟨w.heap.size+1,0,none⟩ (.i 0) (by rw[z0];rfl)) (grownBy_putObj' _ D (.deferred none)) (λr e=>by cases e;exact⟨_,S,rfl⟩);have M:¬O' (w.heap.size+1):=λL=>by rcases d.new _ L with h|h;exact g _ od h;omega
  have E:cq W (W.setCell ⟨w.heap.size+1,0,none⟩ (.i 0)) (some (w.heap.size+1)):=eF (bf _ _) _ _ _;have X:=f.turn E (λr e=>by cases e;exact⟨LP Q,M⟩);refine⟨.i 0,by simp[results,results209,go_sem,Z],O',(((dB.grow F).trans d).zB E (λr e=>by cases e;omega)).zB (grownBy_putObj' _ D (.deferred none)) (λr e=>by cases e;omega),?_⟩;rw[N,List.any_reverse]at t;rw[N,jf5]at X;unfold bz;rw[oa,t,if_neg oe];exact⟨rfl,X.turn (grownBy_putObj' _ D (.deferred none)) (λr e=>by cases e;exact X.no ⟨_,S,rfl⟩)⟩
 case stop =>
  rintro D cd pre W hD ⟨k,hk,rfl⟩ ⟨rfl,P,cj,O',m',e1,e2,f,d⟩ hK
  gi_wp2
  refine⟨oe,.inl ⟨_,_,rfl,run_takeDeferred hK,?_⟩⟩;have Z:=cell_kept cj (grownBy_putObj' _ D (.deferred none)) (λr e=>by cases e;exact⟨_,hK,rfl⟩);refine⟨.i 13,by simp[results,results209,go_sem,Z],O',d.zB (grownBy_putObj' _ D (.deferred none)) (λr e=>by cases e;omega),?_⟩;have ba:l.any yN:=by rw[<-List.any_reverse,<-N];rw[qf5]at P|-;have⟨y,hy,cl⟩:=P;exact⟨y,by simp only[vQ,kl]at hy|-;have⟨x,hx,e⟩:=hy;exact⟨x,qe5 hx,e⟩,cl⟩
  unfold bz;rw[oa,ba,if_pos rfl];exact⟨ov,rfl,m',e1,e2,f.turn (grownBy_putObj' _ D (.deferred none)) (λr e=>by cases e;exact f.no ⟨_,hK,rfl⟩)⟩
end
open Go.ChangeShapes Go.WideShapes Go.ChangeAt Go.RowKit
section
variable {B:Nat}{O O':br}{w w':cg}{mb:Nat}{en:En}{aC:Int}{m:Ma}{k n a:Int}{s:bp}{aa:bj}{al ac:Nat}{ta:bj}{tl tc:Nat}{na:bj}{nl nc:Nat}{sv fv:cm}{us fs:bo}
def Ue:(prog.info? 200).map (λi=>(i.zero,i.size,i.bytes))=some (some (.agg #[.n0,.i 0,.n0,.n0]),4,80):=oA
def OX (us:bo):Prop:=∀u∈us,∃ra rl rc op wa wl wc aa al ac,u=yF ra rl rc op wa wl wc aa al ac
def wE{us:bo}(h:OX us):(flat us).length=us.length*4/\∀y∈flat us,y.oneCell':=by
 refine⟨rY λu b=>?_,λy a=>?_⟩
 .have⟨c,f,d,op,g,wl,wc,aa,al,ac,e⟩:=h u b;rw[e];rfl
 .simp only[flat,qb1]at a;have⟨u,b,a⟩:=a;have⟨c,f,d,op,g,wl,wc,aa,al,ac,e⟩:=h u b;rw[e]at a;simp[yF,nodeCells]at a;rcases a with rfl|rfl|rfl|rfl<;>rfl
def jc.form:∀{f:List Fr}{us:bo},jc B O w f us->OX us/\us.length=f.length
 | [],[],_=>⟨λu d=>by simp at d,rfl⟩
 | f::fs,u::us,h=>by
  have⟨c,b⟩:=h;obtain⟨i,j,k,wc,aa,ac,e,g,rfl,_⟩:=c;refine⟨λv a=>?_,by simp[b.form.2]⟩;rcases ke.1 a with rfl|a
  .exact⟨_,_,_,_,_,_,_,_,_,_,rfl⟩
  .exact b.form.1 v a
 | [],_::_,h=>h.elim
 | _::_,[],h=>h.elim
def jc.snoc{f:Fr}{u:cm}(a:wU B O w f u):∀{l:List Fr}{us:bo},jc B O w l us->jc B O w (l++[f]) (us++[u])
 | [],[],_=>⟨a,trivial⟩
 | f::fs,u::us,h=>⟨h.1,jc.snoc a h.2⟩
 | [],_::_,h=>h.elim
 | _::_,[],h=>h.elim
def jc.split{f:Fr}{u:cm} : ∀{l:List Fr}{us:bo},jc B O w (l++[f]) (us++[u])->jc B O w l us/\wU B O w f u
 | [],[],h=>⟨trivial,h.1⟩
 | f::fs,u::us,h=>⟨⟨h.1,(jc.split h.2).1⟩,(jc.split h.2).2⟩
 | [],u::us,h=>by have:=h.2;cases us<;>exact this.elim
 | f::fs,[],h=>by have:=h.2;cases fs<;>exact this.elim
def kV{f:Fr}{u:cm} : ∀{l:List Fr}{us:bo},us.length=l.length->keptBs (l++[f]) (us++[u])=keptBs l us++lM f u
 | [],[],_=>by simp[keptBs]
 | f::fs,u::us,h=>by simp only[qe0,keptBs,kV (by simpa using h),qa6]
def bU.apart(h:bU B O w mb en aC m k n a s aa al ac ta tl tc na nl nc sv fv us fs):(∀g,sv.ownBlock=some g->g≠mb/\fv.ownBlock≠some g)/\(∀g∈keptBs m.fr.reverse fs,g≠mb/\fv.ownBlock≠some g/\sv.ownBlock≠some g)/\fv.ownBlock≠some mb:=by
 have hF:∀{g:Nat} {cs:Array cm},w.heap[g]?=some (.cells cs 29)->fv.ownBlock≠some g:=λb e=>aD h.own b ov e.symm;refine⟨λg e=>?_,λg d=>?_,λe=>aD h.own h.blk ov e.symm⟩
 .rcases h.jL.own.2 with⟨c,_⟩|⟨j,f,i,c,_,b,_⟩
  .rw[c]at e;cases e
  .rw[c]at e;cases e;exact⟨dC b h.blk ov,hF b⟩
 .have⟨_,cs,b⟩:=h.sZ.mine g d;exact⟨dC b h.blk ov,hF b,λe=>(qd5.1 h.nodup).2.2 g (by simp[e]) g d rfl⟩
def bU.push(h:bU B O w mb en aC m k n a s aa al ac ta tl tc na nl nc sv fv us fs)(i:dB O w O' w'){st:ao}{f:Fr}{u sv' c:cm}{us':bo}(d:w'.heap[mb]?=some (.cells (yG en aC m.paid m.aO k n a s aa al ac ta tl tc na nl nc sv' c) 197))
 (hstk:sU B O' w' st.reverse sv' us') (hown:kU B w' c (fs++[u])) (hu:wU B O' w' f u) (hnd:(sv'.ownBlock.toList++(keptBs m.fr.reverse fs++lM f u)).Nodup) (hO:∀g,O g->fv.ownBlock≠some g->O' g) (hk:∀g∈keptBs m.fr.reverse fs,w'.heap[g]?=w.heap[g]?)
 (hfv:∀g,c.ownBlock=some g->O' g) (hcells:∀b,O' b->∃cs e,w'.heap[b]?=some (.cells cs e)):bU B O' w' mb en aC { m with st:=st,fr:=f::m.fr } k n a s aa al ac ta tl tc na nl nc sv' c us' (fs++[u]):=by
 have o:=h.apart;have q:=h.sZ.form.2;refine⟨d,i.lies h.said,hstk,hown,?_,?_,⟨hO _ h.mine.1 o.2.2,hfv⟩,λb p=>?_,hcells,h.num⟩
 .simp only[qc7];exact jc.snoc hu (h.sZ.kept i λg j=>⟨hO g (h.sZ.mine g j).1 (o.2.1 g j).2.1,hk g j⟩)
 .simp only[qc7];rw[kV q];exact hnd
 .rcases i.new b p with l|l
  .exact h.low b l
  .have:=h.low _ h.mine.1;have:=h.high _ h.mine.1;omega
def WY{w:cg}{g:Nat}{T:TypeId}{x0 a b c:cm}(h:w.heap[g]?=some (.cells #[x0,a,b,c] T (0,0))):w.cell? ⟨g,0,none⟩=some x0/\w.cell? ⟨g,1,none⟩=some a/\w.cell? ⟨g,2,none⟩=some b/\w.cell? ⟨g,3,none⟩=some c:=by simp[World.cell?,h]
def IW (B:Nat) (w:cg) (mb:Nat) (fv:cm) (us:bo) (e:Ending) (w':cg):Prop :=
 e =.returned (.tuple #[])/\∃fv' w1,Gr w fv w1 fv'/\kU B w1 fv' us/\w'=w1.setCell ⟨mb,15,none⟩ fv'
def Dm{ra:bj}{rl rc:Nat}{op:Int}{wa:bj}{wl wc:Nat}{ba:bj}{bl bc:Nat}(h:bU B O w mb en aC m k n a s aa al ac ta tl tc na nl nc sv fv us fs)(q:m.fr.length<=100000000):Calls prog 128 #[.po mb,.agg #[.slice ra rl rc,.i op,.slice wa wl wc,.slice ba bl bc]] w (IW B w mb fv (fs++[yF ra rl rc op wa wl wc ba bl bc])):=by
 have y:=aK (w:=w) (.cells #[.slice ra rl rc,.i op,.slice wa wl wc,.slice ba bl bc] 200);have x:=xF w (.cells #[.slice ra rl rc,.i op,.slice wa wl wc,.slice ba bl bc] 200);have HM:=jh h;have g:Hid (fs.length<=100000000):=by have:=h.sZ.form.2;rw[qb3]at this;exact (by omega:fs.length<=100000000)
 have HB:Hid (B<=w.heap.size):=by have:=h.low _ h.mine.1;have:=h.high _ h.mine.1;exact (by omega:B<=w.heap.size)
 have H:=h.high _ h.mine.1;clear h q;go_enter func128,ntmps128;go_wp2_with fail;refine wp_region_held_drew (S:=λw'=>w'.heap[w.heap.size]?=some (.cells #[.slice ra rl rc,.i op,.slice wa wl wc,.slice ba bl bc] 200)) oA x (λc=>?_);have f:cq w (w.alloc (.cells #[.slice ra rl rc,.i op,.slice wa wl wc,.slice ba bl bc] 200)).drew none:=kY y;generalize (w.alloc _).drew=E at *;have b:=jh (HM.grow f);have t:=(iM b.blk).2.2.2.2.2.2.2.2.1;have C:=kNq (aK (w:=E) (.cells #[.slice ra rl rc,.i op,.slice wa wl wc,.slice ba bl bc] 200)) t;refine fG 0 4 ?_;refine fG 1 5 ?_;refine fG 2 6 ?_;refine fG 3 7 ?_;refine LX 5 9 (v:=.agg #[.slice ra rl rc,.i op,.slice wa wl wc,.slice ba bl bc]) ⟨_,rfl,rfl,rfl,λN G=>?_⟩ ?_
 .have z:=WY G;go_simp
 simp only[Act.put,pS];have d:=aB (o:=.cells #[.slice ra rl rc,.i op,.slice wa wl wc,.slice ba bl bc] 200) c;refine wpAnyH_ready (rs:=[4,6]) oA oe ?_;refine AllReadyH.cons rfl (λK hK=>?_) (AllReadyH.cons rfl (λK hK=>?_) AllReadyH.nil)
 focus
  go_simp;refine hK _ _ c (λ_=>?_);clear hK K;refine wpAnyH_ready (rs:=[6]) oA oe ?_;refine AllReadyH.cons rfl (λK hK=>?_) AllReadyH.nil;go_simp;refine hK _ _ d (λ_=>?_);clear hK K
 rotate_left
 focus
  go_simp;refine hK _ _ d (λ_=>?_);clear hK K;refine wpAnyH_ready (rs:=[4]) oA oe ?_;refine AllReadyH.cons rfl (λK hK=>?_) AllReadyH.nil;go_simp;refine hK _ _ d (λ_=>?_);clear hK K
 all_goals
  refine wpAnyH_ready (rs:=[7]) oA oe ?_;refine AllReadyH.cons rfl (λK hK=>?_) AllReadyH.nil;refine yx rfl (.tmp 8) (.tmp 10) 195 rfl B 200 underlying195 Ue rfl ov fv fs.length (flat fs) rfl (qg4 b.own _) (.o (E.heap.size) 1 1) 1 [.slice ra rl rc,.i op,.slice wa wl wc,.slice ba bl bc] rfl rfl (gZ.new _ _ _ _ _) (by intro u D;simp at D;rcases D with rfl|rfl|rfl|rfl<;>rfl) (by have:=g.out;unfold maxLen;omega) (by have:=g.out;omega) (xo HB (xo f.size (aK _).size)) ?_;intro M I A r _;obtain⟨J,L,rfl⟩:=nX A;have HO:=jh A;have F:=jh r;have l:=b.out.blk;have p:=(r.block (kh (b.high _ b.mine.1) (aK _).size) b.apart.2.2.symm).trans (aB l);have P:=iM p;have j:=(r.block (kj.1 d).1 (λe=>jg3 _ (qb5 HM.own _ e.symm).2)).trans d;clear A r l p;refine hK _ _ j (λ_=>?_);clear hK K;refine fG 8 12 ?_;refine fG 9 13 ?_;refine wpAnyH_ready (rs:=[10]) oA oe ?_;refine AllReadyH.cons rfl (λK hK=>?_) AllReadyH.nil;go_simp;refine hK _ _ ((Below.heap_setCell _ _ _ _ (by show w.heap.size≠mb;omega)).trans j) (λ_=>?_);clear hK K;refine wpAnyH_done oA ?_ _;go_wp2_with fail;refine jb3 (v:=.tuple #[]) (by simp[results,results128,go_sem]) rfl ?_;refine⟨rfl,_,I,?_,?_,rfl⟩
  .exact Gr.trans ⟨gAq (aJ f (aK _)),.inl rfl⟩ F
  .unfold kU;rw[ju,bV];exact HO
def Dp{ra:bj}{rc:Nat}{wa:bj}{wc:Nat}{ba:bj}{bc:Nat}{f:Fr}{L VW VA:bt}(h:dm B O w mb en aC m)(x:m.fr.length<=100000000)(r:f.op≠67/\bD f.op)(T:cK (λb=>¬O b) w f.rest ra L)(U:cK (λb=>¬O b) w f.row wa VW)(S:aT (λb=>¬O b) w f.aside ba VA)(hc:f.rest.length<=rc/\f.row.length<=wc/\f.aside.length<=bc) :
 Calls prog 128 #[.po mb,.agg #[.slice ra f.rest.length rc,.i f.op,.slice wa f.row.length wc,.slice ba f.aside.length bc]] w (K8 B O w mb en aC { m with fr:=f::m.fr }):=by
 have⟨k,n,a,s,aa,al,ac,ta,tl,tc,na,nl,nc,sv,fv,us,fs,h⟩:=h;refine (Dm h x).mono ?_;rintro e w' ⟨rfl,c,y,v,K,rfl⟩;have o:=h.apart;have j:cq y (y.setCell ⟨mb,15,none⟩ c) (some mb):=eF (bf _ _) _ _ _;have D:=dB.gr v h.mine.2;have I:qx O fv c mb:=.inl ⟨h.mine.1,o.2.2⟩;have F:dB (qx O fv c) y (qx O fv c) (y.setCell ⟨mb,15,none⟩ c):=dB.ofRow j (λq e=>by cases e;exact I);have t:=D.trans F;have E:=(v.block (h.high _ h.mine.1) o.2.2.symm).trans h.blk;have p:=(nG E c).2.1;have d:∀g,O g->g≠mb->fv.ownBlock≠some g->(y.setCell ⟨mb,15,none⟩ c).heap[g]?=w.heap[g]?:=λg A Q R=>(j.block g (kh (h.high g A) v.1.size) (by simpa using Q)).trans (v.block (h.high g A) R.symm);have G:∀g,c.ownBlock=some g->g≠mb:=λg e u=>by
  subst u;rcases v.2 with z|⟨V,z,C⟩
  .exact o.2.2 (by rw[<-z,e])
  .rw[e]at z;cases z;have:=h.high _ h.mine.1;omega
 have H:lM f (yF ra f.rest.length rc f.op wa f.row.length wc ba f.aside.length bc)=[]:=by unfold lM;rw[if_neg r.1]
 refine⟨rfl,_,t,_,_,_,_,_,_,_,_,_,_,_,_,_,_,_,_,_,h.push t p (h.jL.kept t λg e=>⟨.inl ⟨h.jL.mine g e,(o.1 g e).2⟩,d g (h.jL.mine g e) (o.1 g e).1 (o.1 g e).2⟩) (iT K λg e=>j.block g (qb5 K g e).2 (by simpa using G g e))
  ⟨ra,rc,wa,wc,ba,bc,L,VW,rfl,r.2,hc,t.Kl T,t.Kl U,λe=>absurd e r.1,λ_=>⟨VA,t.U5 S⟩⟩ (by rw[H,qb0];exact h.nodup) (λg A J=>.inl ⟨A,J⟩) (λg C=>d g (h.sZ.mine g C).1 (o.2.1 g C).1 (o.2.1 g C).2.1) (λg e=>.inr e) (λb l=>?_)⟩
 by_cases e:b=mb
 .subst e;exact⟨_,_,p⟩
 .rcases l with l|l
  .rw[d b l.1 e l.2];exact h.cells b l.1
  .rcases K.2 with⟨u,_⟩|⟨g,N,P,u,_,M,_⟩
   .rw[u]at l;cases l
   .rw[u]at l;cases l;rw[j.block _ (kj.1 M).1 (by simpa using e)];exact⟨_,_,M⟩
end
open Pe
structure Mc where
 B:Nat
 mb:Nat
 en:En
 aC:Int
 W:cg
 O:br
abbrev Mc.res (c:Mc) (ps:Nat->Ma->Prop):pq where
 G i W ok:=∃m O,ps i m/\dm c.B O W c.mb c.en c.aC m/\dB c.O c.W O W/\∀b,ok b->¬O b
 grow:=λi W ok w ⟨m,O,h0,h1,h2,h3⟩ hg=>⟨m,O,h0,h1.grow hg,h2.trans (dB.grow hg),λb hb hO=>by
  rcases hb with hb|hb
  .exact h3 b hb.2 hO
  .have:=h1.high b hO;omega⟩
def YG (mb:Nat):cm:=.po mb
def XW (mb:Nat):A1:=.one (.d (.v (YG mb)))
def BF{O a ok:br}{w w':cg}(h:dB O w a w')(d:∀b,ok b->¬O b):∀b,b<w.heap.size->ok b->¬a b/\w'.heap[b]?=w.heap[b]?:=λb f hk =>
 ⟨λe=>by rcases h.new b e with c|c;exact d b hk c;omega,h.block b f (d b hk)⟩
def ec:Go.Proofs.YtnamdihclpbdfabGreat.Out->Int
 | .no e _=>e
 | _=>0
def oP:Go.Proofs.YtnamdihclpbdfabGreat.Out->Ma->Prop
 | .go m=>λx=>x=m
 | .no e m=>λx=>e≠0/\x.paid=m.paid/\x.said=m.said
 | .stuck=>λ_=>False
def EM (m:Ma):Ma->Prop:=λx=>x=m
def p2 (p q:Ma->Prop):Nat->Ma->Prop
 | 0=>p
 | _+1=>q
def HM (c:Mc) (p q:Ma->Prop) (f:FuncId) (args:List A1) (res:AV):Prop:=@Holds (c.res (p2 p q)) prog (@Sp.mk f (XW c.mb::args) res ⟨some (0,1)⟩ fr0 bl0)
def HO (c:Mc) (m:Ma) (f:FuncId) (args:List A1) (o:Go.Proofs.YtnamdihclpbdfabGreat.Out):Prop:=HM c (EM m) (oP o) f args (.of (iA (ec o)))
section
variable {c:Mc}{p q p' q':Ma->Prop}{f:FuncId}{args:List A1}{res:AV}{m:Ma}{o:Go.Proofs.YtnamdihclpbdfabGreat.Out}
def HM.at(h:HM c p q f args res){ps:Nat->Ma->Prop}(i:Nat)(hi:∀x,ps i x->p x:=by exact λ_ h=>h)(o:∀x,q x->ps (i+1) x:=by exact λ_ h=>h) : @Holds (c.res ps) prog (@Sp.mk f (XW c.mb::args) res ⟨some (i,i+1)⟩ fr0 bl0) :=
 have n:=@Holds.OT (c.res (p2 p q)) _ _ h
 @Holds.mk (c.res ps) _ _ n λy w z ⟨m,O,g,j,k,l⟩ r=>(@Holds.runM (c.res (p2 p q)) _ _ h 0 1 rfl rfl y w z ⟨m,O,hi m g,j,k,l⟩ r).mono
  λe w' ⟨g1,a,⟨b,O',s,t,u,v⟩,g2,d⟩=>⟨g1,a,⟨b,O',o b s,t,u,v⟩,g2,d⟩
def psL (p:Ma->Prop) (l:List (Ma->Prop)):Nat->Ma->Prop
 | 0=>p
 | i+1=>(l[i]?).getD λ_=>False
def runM(l:List (Ma->Prop))(T:Hints){f:FuncId}{a:Func}(t:prog.funcs[f]?=some a)(b:List { s:Sp // @Holds (c.res (psL (EM m) l)) prog s }){args:List A1}{res:AV}{ob:List Prop}
 (h:asked (Wd (some (0,l.length)) false prog a (a.body.getD .skip) T [] (b.map (·.1)) (XW c.mb::args))=some (res,[],(b.map (·.1)).map (λs=>s.need=s.need),ob)) (hob:∀p∈ob,p) (hq:∀x,psL (EM m) l l.length x->q x:=by exact λ_ h=>h)
 (hb:a.body.isSome:=by kernel_rfl) (hn:(a.name == "runtime.NumGoroutine")=false:=by kernel_rfl):HM c (EM m) q f args res:=by
 have:=@YJ (c.res (psL (EM m) l)) ⟨some (0,l.length)⟩ f a t T [] oe b _ _ ob h hob hb hn (λ_=>rfl);have r:=@Holds.OT (c.res (psL (EM m) l)) _ _ this;exact @Holds.mk (c.res (p2 (EM m) q)) _ _ r λB w C ⟨m,O,j,k,n,o⟩ u=>(@Holds.runM (c.res (psL (EM _) l)) _ _ this 0 l.length rfl rfl B w C ⟨m,O,j,k,n,o⟩ u).mono
  λe w' ⟨g1,d,⟨g,O',v,y,z,A⟩,g2,i⟩=>⟨g1,d,⟨g,O',hq g v,y,z,A⟩,g2,i⟩
def sI(l:List Ma)(T:Hints){f:FuncId}{a:Func}(g:prog.funcs[f]?=some a)(b:List { s:Sp // @Holds (c.res (psL (EM m) (l.map EM++[oP o]))) prog s }){args:List A1}{ob:List Prop}
 (hob:∀p∈ob,p) (h:asked (Wd (some (0,l.length+1)) false prog a (a.body.getD .skip) T [] (b.map (·.1)) (XW c.mb::args))=some (.of (iA (ec o)),[],(b.map (·.1)).map (λs=>s.need=s.need),ob):=by kernel_rfl)
 (hb:a.body.isSome:=by kernel_rfl) (hn:(a.name == "runtime.NumGoroutine")=false:=by kernel_rfl):HO c m f args o:=by
 have d:(l.map EM++[oP o]).length=l.length+1:=oe
 refine runM (q:=oP o) (l.map EM++[oP o]) T g b (by rw[d];exact h) hob (λx e=>?_) hb hn;rw[d]at e;simpa[psL]using e
def eH(l:List Ma){f:FuncId}{a:Func}(d:prog.funcs[f]?=some a)(b:List { s:Sp // @Holds (c.res (psL (EM m) (l.map EM++[oP o]))) prog s }){args:List A1}
 (h:asked (Wd (some (0,l.length+1)) false prog a (a.body.getD .skip) [] [] (b.map (·.1)) (XW c.mb::args))=some (.of (iA (ec o)),[],(b.map (·.1)).map (λs=>s.need=s.need),[]):=by kernel_rfl)
 (hb:a.body.isSome:=by kernel_rfl) (hn:(a.name == "runtime.NumGoroutine")=false:=by kernel_rfl):HO c m f args o:=sI l [] d b oe h hb hn
def Ol(l:List Ma)(T:Hints){f:FuncId}{a:Func}(d:prog.funcs[f]?=some a)(b:List { s:Sp // @Holds (c.res (psL (EM m) (l.map EM))) prog s }){args:List A1}{ob:List Prop}
 (hob:∀p∈ob,p) (hq:∀x,psL (EM m) (l.map EM) l.length x->oP o x) (h:asked (Wd (some (0,l.length)) false prog a (a.body.getD .skip) T [] (b.map (·.1)) (XW c.mb::args))=some (.of (iA (ec o)),[],(b.map (·.1)).map (λs=>s.need=s.need),ob):=by kernel_rfl)
 (hb:a.body.isSome:=by kernel_rfl) (hn:(a.name == "runtime.NumGoroutine")=false:=by kernel_rfl):HO c m f args o :=
 runM (q:=oP o) (l.map EM) T d b (by rw[xj];exact h) hob (by rw[xj];exact hq) hb hn
def HO.of(u:∀(args:Array cm) (w:cg),(callFunc f args).run prog w =.ok (.enter f args) w)(h:∀O w vs,dm c.B O w c.mb c.en c.aC m->dU (gm (λ_=>none) (λb=>¬O b) w) args vs->Calls prog f (YG c.mb::vs).toArray w (jK c.B O w c.mb c.en c.aC o)):HO c m f args o :=
 @Holds.mk (c.res (p2 (EM m) (oP o))) _ _ ⟨u,rfl⟩ λok w vs r g=>by
  obtain⟨x,O,rfl,s,hF,j⟩:=r
  match vs,g with
  | v::vs,⟨y,g⟩ =>
   rw[bW y];refine (h O w vs s (g.mono λa v h=>gm.keep ⟨jn _,λb _ t=>⟨j b t,λ_=>rfl⟩⟩ (λ_ _ e=>e) a v h)).mono ?_;rintro e w' ⟨O',d,i⟩;refine⟨d.size,λb=>¬O' b,?_,BF d j,?_⟩
   .cases o with
    | stuck=>exact i.elim
    | no k m=>have⟨l,_,z,n,p,q⟩:=i;exact⟨z,O',⟨l,n,p⟩,q,hF.trans d,λb h=>h⟩
    | go m=>exact⟨m,O',rfl,i.2,hF.trans d,λb h=>h⟩
   .cases o with
    | stuck=>exact i.elim
    | no k m=>exact⟨_,i.2.1,fI.v _⟩
    | go m=>exact⟨_,i.1,fI.v _⟩
def HM.of{i:Ma}(q:∀(args:Array cm) (w:cg),(callFunc f args).run prog w =.ok (.enter f args) w)(h:∀O w vs,dm c.B O w c.mb c.en c.aC m->dU (gm (λ_=>none) (λb=>¬O b) w) args vs->Calls prog f (YG c.mb::vs).toArray w (K8 c.B O w c.mb c.en c.aC i)):HM c (EM m) (EM i) f args undefA :=
 @Holds.mk (c.res (p2 (EM m) (EM i))) _ _ ⟨q,rfl⟩ λok w vs n g=>by
  obtain⟨x,O,rfl,o,hF,j⟩:=n
  match vs,g with
  | v::vs,⟨r,g⟩ =>
   rw[bW r];refine (h O w vs o (g.mono λa v h=>gm.keep ⟨jn _,λb _ p=>⟨j b p,λ_=>rfl⟩⟩ (λ_ _ e=>e) a v h)).mono ?_;rintro e w' ⟨k,O',d,l⟩;exact⟨d.size,λb=>¬O' b,⟨i,O',rfl,l,hF.trans d,λb h=>h⟩,BF d j,_,k,fI.v _⟩
def HO.go{B mb:Nat}{en:En}{aC:Int}{O:br}{w:cg}(h:HO ⟨B,mb,en,aC,w,O⟩ m f args o)(g:dm B O w mb en aC m){vs:bo}(c:dU (gm (λ_=>none) (λb=>¬O b) w) args vs):Calls prog f (YG mb::vs).toArray w (jK B O w mb en aC o):=by
 refine (@Holds.runM (Mc.res ⟨B,mb,en,aC,w,O⟩ (p2 (EM m) (oP o))) _ _ h 0 1 rfl rfl (λb=>¬O b) w (YG mb::vs) ⟨m,O,rfl,g,dB.refl _ _,λ_ h=>h⟩ ⟨fI.v _,c⟩).mono ?_;rintro e w' ⟨_,l,⟨k,O',a,d,j,p⟩,_,v,rfl,i⟩;have c:=bW i;subst c;refine⟨O',j,?_⟩
 cases o with
 | stuck=>exact a.elim
 | no n m=>exact⟨a.1,rfl,k,a.2.1,a.2.2,d⟩
 | go m=>cases a;exact⟨rfl,d⟩
def SC{x:Va}{st:ao}(g:m.st=x::st):HM c (EM m) (EM { m with st:=st }) 191 [] (.of (pF x)) :=
 @Holds.mk (c.res (p2 (EM m) (EM _))) _ _ (tF func191) λok w o i f=>by
  obtain⟨y,O,rfl,j,hF,k⟩:=i
  match o,f with
  | [v],⟨n,_⟩ =>
   rw[bW n];refine (yB j g).mono ?_;rintro e w' ⟨u,rfl,l,a,d⟩;exact⟨a.size,λb=>¬O b,⟨_,O,rfl,d,hF.trans a,λb h=>h⟩,BF a k,u,rfl,FJ l⟩
def HO_pay:HO c m 189 [] (uH c.aC m .go):=HO.of (bK func189) λO w d a b=>by
 match d,b with
 | [],_=>exact Ff a
def vE{l:ao}(h:bz m l ≠ .stuck):vsizes l<=20000000:=by
 unfold bz at h;split at h
 .exact absurd rfl h
 .omega
def len_vsizes:∀l:ao,l.length<=vsizes l
 | []=>yb _
 | x::l=>by have:=eP x;have:=len_vsizes l;simp only[vsizes,jj];omega
def IX{l:ao}(n:Nat)(hk:okVs l)(hn:n=7\/l=[])(b:bz m l ≠ .stuck)(f:m.st.length<=50000000):HO c m 209 [.one (.d (.s n (vasD l)))] (bz m l):=HO.of (bK func209) λO w i g e=>by
 match i,e with
 | [v],⟨e,_⟩ =>
  obtain⟨a,c,V,rfl,j,h⟩:=lV hk hn e;have:=len_vsizes l;have:=vE b;exact Fh g h (vE b) od
def SE(k n a:Int)(s:bp)(i j q:Nat)(args:ao)(types:aw)(code:aE)(hk:okV (.mk k n a s args types code))(u:i=7\/args=[])(z:j=2\/types=[])(A:q=5\/code=[])(o:bz m [.mk k n a s args types code] ≠ .stuck)(t:m.st.length<=50000000) :
 HO c m 209 [.one (.d (.s 7 [[.v (.i k),.v (.i n),.v (.i a),.v (.string s),.s i (vasD args),.s j (tysD types),.s q (ndsD code)]]))] (bz m [.mk k n a s args types code]):=HO.of (bK func209) λO w E B p=>by
 match E,p with
 | [v],⟨p,_⟩ =>
  have C:fI (λb=>¬O b) w (.s 7 (vasD [.mk k n a s args types code])) v:=by
   obtain⟨F,c,U,rfl,g1,g2,G,g⟩:=fH (p:fI _ w (.s 7 _) v);refine .s U g1 g2 (λx r e=>?_) (λx r y d h f=>?_) (λx r y d h f=>?_)
   .match x,e with
    | 0,e=>cases e;rfl
   .match x,h with
    | 0,h =>
     cases h
     match y,f with
     | 0,f|1,f|2,f|3,f|4,f|5,f|6,f=>exact (g 0 _ _ _ rfl rfl).1
   .match x,h with
    | 0,h =>
     cases h
     match y,f with
     | 0,f=>cases f;exact (g 0 _ 0 _ rfl rfl).2
     | 1,f=>cases f;exact (g 0 _ 1 _ rfl rfl).2
     | 2,f=>cases f;exact (g 0 _ 2 _ rfl rfl).2
     | 3,f=>cases f;exact (g 0 _ 3 _ rfl rfl).2
     | 4,f =>
      cases f;have:=(g 0 _ 4 _ rfl rfl).2;rcases u with rfl|rfl
      .exact this
      .exact gG this
     | 5,f =>
      cases f;have:=(g 0 _ 5 _ rfl rfl).2;rcases z with rfl|rfl
      .exact this
      .exact gG this
     | 6,f =>
      cases f;have:=(g 0 _ 6 _ rfl rfl).2;rcases A with rfl|rfl
      .exact this
      .exact gG this
  obtain⟨a,c,V,rfl,H,D⟩:=lV (n:=7) (l:=[.mk k n a s args types code]) ⟨hk,trivial⟩ (.inl rfl) C;exact Fh B D (vE o) ot
def OZ(f:Fr)(i j k:Nat)(l:f.op≠67/\bD f.op)(t:okNs f.rest)(p:i=5\/f.rest=[])(u:okNs f.row)(q:j=5\/f.row=[])(x:okVs f.aside)(r:k=7\/f.aside=[])(o:m.fr.length<=50000000) :
 HM c (EM m) (EM { m with fr:=f::m.fr }) 128 [.agg [.d (.s i (ndsD f.rest)),.d (.v (.i f.op)),.d (.s j (ndsD f.row)),.d (.s k (vasD f.aside))]] undefA:=HM.of (bK func128) λO w G z n=>by
 match G,n with
 | [v],⟨n,_⟩ =>
  obtain⟨H,rfl,B⟩:=n
  match H,B with
  | [a,b,c,d],⟨C,D,E,F,_⟩ =>
   obtain⟨N,P,J,rfl,e,A⟩:=xU t p C;obtain⟨Q,wc,K,rfl,g,hW⟩:=xU u q E;obtain⟨L,M,I,rfl,h,y⟩:=lV x r F;have:=bW D;subst this;exact Dp z od l A hW y ⟨e,g,h⟩
abbrev sm (m:Ma) (s:ao):Ma:={ m with st:=s }
variable {ps:Nat->Ma->Prop}
def pu (h:HM c p q f args res) (i:Nat) (hi:∀x,ps i x->p x:=by exact λ_ h=>h) (hj:∀x,q x->ps (i+1) x:=by exact λ_ h=>h):{ s:Sp // @Holds (c.res ps) prog s }:=⟨_,h.at i hi hj⟩
def Hd.up{s:Sp}{R:pq}(h:Hd s)(e:s.mv=mv0)(a:s.fr=fr0) : @Holds R prog s :=
 @Holds.any res0 R _ s h (by rw[e];rfl)
def up {s:Sp}{R:pq}(h:Hd s) (e:s.mv=mv0:=by rfl) (e2:s.fr=fr0:=by rfl):{ s:Sp // @Holds R prog s }:=⟨s,Hd.up h e e2⟩
def X0(m:Ma)(x:Va)(s:ao):HM c (EM (sm m (x::s))) (EM (sm m s)) 191 [] (.of (pF x)):=SC rfl
def tk (m:Ma) (x:Va) (s:ao) (i:Nat) (hi:∀y,ps i y->EM (sm m (x::s)) y:=by exact λ_ h=>h) (hj:∀y,EM (sm m s) y->ps (i+1) y:=by exact λ_ h=>h):{ s:Sp // @Holds (c.res ps) prog s }:=pu (X0 m x s) i hi hj
end
set_option maxHeartbeats 4000000
def aX{n:Int}(h:kE n):-1152921504606846976<=n/\n<=1152921504606846976:=qc4 h
def Zi{k:IntKind}{a b:Int}{w w':cg}(h:a=b)(c:w'=w):Ending.returned (.int k a) =.returned (.int k b)/\w'=w:=by rw[h];exact⟨rfl,c⟩
def P2 (w:cg) (r:Int×Int) (e:Ending) (w':cg):Prop:=e =.returned (.tuple #[.i r.1,.i r.2])/\w'=w
def GM(a:Int)(w:cg):Calls prog 131 #[.i a] w (P2 w (kF a)):=by
 unfold kF;cases h:kE a
 all_goals
  simp only[qc6,↓reduceIte];go_enter func131,ntmps131;go_wp2_with (go_at_call 68;refine (jI _ _).mono ?_;rintro e w' ⟨rfl,rfl⟩;rw[h]);go_ret2;exact⟨rfl,rfl⟩
def Lc(a b:Int)(w:cg):Calls prog 113 #[.i a,.i b] w (P2 w (addN a b)):=by
 unfold addN;have c:=jh (GM (a+b));cases d:kE a<;>cases f:kE b
 all_goals simp only[qc6,and_self,and_false,false_and,↓reduceIte]
 rotate_left 3
 generalize kF (a+b)=r at c|-;have g:wrap64 (a+b)=a+b:=by have:=aX d;have:=aX f;unfold wrap64;omega
 rotate_right 3
 all_goals
  go_enter func113,ntmps113;go_wp2_with (first
   | (go_at_call 68;refine (jI _ _).mono ?_;rintro e w' ⟨rfl,rfl⟩;first|rw[d]|rw[f])
   | (go_at_call 131;refine (c _).mono ?_;rintro e w' ⟨rfl,rfl⟩))
  go_ret2;exact⟨rfl,rfl⟩
def Vo(a b:Int)(w:cg):Calls prog 241 #[.i a,.i b] w (P2 w (Iu a b)):=by
 unfold Iu;have c:=jh (GM (a - b));cases d:kE a<;>cases f:kE b
 all_goals simp only[qc6,and_self,and_false,false_and,↓reduceIte]
 rotate_left 3
 generalize kF (a - b)=r at c|-;have g:wrap64 (a - b)=a - b:=by have:=aX d;have:=aX f;unfold wrap64;omega
 rotate_right 3
 all_goals
  go_enter func241,ntmps241;go_wp2_with (first
   | (go_at_call 68;refine (jI _ _).mono ?_;rintro e w' ⟨rfl,rfl⟩;first|rw[d]|rw[f])
   | (go_at_call 131;refine (c _).mono ?_;rintro e w' ⟨rfl,rfl⟩))
  go_ret2;exact⟨rfl,rfl⟩
def o8(a:Int)(w:cg)(h:kE a):Calls prog 239 #[.i a] w λe w'=>e =.returned (.int .u64 (a.natAbs:Int))/\w'=w:=by
 have⟨c,d⟩:=aX h;rcases (by omega:a<0\/0<=a)with b|b
 all_goals
  go_enter func239,ntmps239
  go_wp2
  go_ret;exact Zi od rfl
def TA(a:Int)(w:cg):Calls prog 222 #[.i a] w (P2 w (EJ a)):=by
 unfold EJ;cases b:kE a
 all_goals simp only[qc6,↓reduceIte]
 rotate_left
 have c:(a.natAbs:Int)<=1152921504606846976:=by have:=aX b;omega
 rotate_right
 all_goals
  go_enter func222,ntmps222;go_wp2_with (first
   | (go_at_call 68;refine (jI _ _).mono ?_;rintro e w' ⟨rfl,rfl⟩;rw[b])
   | (go_at_call 239;refine (o8 _ _ b).mono ?_;rintro e w' ⟨rfl,rfl⟩))
  go_ret2;exact⟨rfl,rfl⟩
def ES{a b q r:Int}(hb:b≠0)(e:b*q+r=a)(h0:0<=r)(d:r<(b.natAbs:Int)):a / b=q/\a % b=r:=by
 have c:a % b=r:=by
  rw[<-e,Int.mul_add_emod_self_left];rcases Int.lt_or_gt_of_ne hb with f|g
  .rw[<-Int.emod_neg];exact Int.emod_eq_of_lt h0 od
  .exact Int.emod_eq_of_lt h0 od
 have eq:b*(a / b)=b*q:=by have:=Int.mul_ediv_add_emod a b;rw[c]at this;omega
 exact⟨Int.eq_of_mul_eq_mul_left hb eq,c⟩
def Cs(a:Int){b:Int}(hb:b≠0):(a.tdiv b).natAbs<=a.natAbs/\(a.tmod b).natAbs<b.natAbs/\(0<=a->0<=a.tmod b)/\(a<=0->a.tmod b<=0)/\b*a.tdiv b+a.tmod b=a:=by
 refine⟨Int.natAbs_tdiv_le_natAbs a b,?_,λh=>Int.tmod_nonneg b h,λh=>?_,Int.mul_tdiv_add_tmod a b⟩
 .rw[Int.natAbs_tmod];exact Nat.mod_lt _ od
 .have:=Int.tmod_nonneg (a:=-a) b od;rw[Int.neg_tmod]at this;omega
def R4(a:Int){b:Int}(hb:b≠0):(0<=a.tmod b->a / b=a.tdiv b/\a % b=a.tmod b)/\(a.tmod b<0->0<b->a / b=a.tdiv b - 1/\a % b=a.tmod b+b)/\(a.tmod b<0->b<0->a / b=a.tdiv b+1/\a % b=a.tmod b - b):=by
 have⟨_,d,_,_,c⟩:=Cs a hb;generalize a.tdiv b=q at *;generalize a.tmod b=r at *;refine⟨λh=>ES hb c h od,λh f=>ES hb ?_ od od,λh e=>ES hb ?_ od od⟩
 .rw[Int.mul_sub];omega
 .rw[Int.mul_add];omega
def Qi(a b:Int)(w:cg)(d:kE a)(hb:kE b):Calls prog 240 #[.i a,.i b] w λe w'=>∃q r m,e =.returned (.tuple #[.i q,.i r,.i m])/\(b=0->q=0/\r=0/\m=6)/\(b≠0->q=a / b/\r=a % b/\m=0)/\∃n,w'=w.drewN n:=by
 by_cases f:b=0
 .subst f;go_enter func240,ntmps240;go_wp2_with (go_at_call 68;refine (jI _ _).mono ?_;rintro e w' ⟨rfl,rfl⟩;first|rw[d]|rw[hb])
  go_ret3
  exact⟨0,0,6,rfl,λ_=>⟨rfl,rfl,rfl⟩,λh=>absurd rfl h,0,rfl⟩
 .have⟨g,j,k⟩:=R4 a f;have⟨t,u,v,x,y⟩:=Cs a f;have p:=aX d;have s:=aX hb;have H:(b==0)=false:=ja0.2 f;have⟨D,E⟩:-1152921504606846976<=a.tdiv b/\a.tdiv b<=1152921504606846976:=by omega
  have⟨F,G⟩:-1152921504606846976<=a.tmod b/\a.tmod b<=1152921504606846976:=od
  have⟨z,A⟩:=p;have⟨B,C⟩:=s;have l:=jh f;rcases (by omega:0<=a.tmod b\/a.tmod b<0/\0<b\/a.tmod b<0/\b<0)with h|⟨h,o⟩|⟨h,o⟩
  .have c:=jh (g h);clear g j k t u v x y;go_enter func240,ntmps240;go_wp2_with (go_at_call 68;refine (jI _ _).mono ?_;rintro e w' ⟨rfl,rfl⟩;first|rw[d]|rw[hb])
   go_quiet (fail)
   go_wp2
   go_ret3
   exact⟨_,_,0,rfl,λh=>absurd h l,λ_=>⟨c.1.symm,c.2.symm,rfl⟩,_,rfl⟩
  .have c:=jh (j h o);clear g j k t u v x y;go_enter func240,ntmps240;go_wp2_with (go_at_call 68;refine (jI _ _).mono ?_;rintro e w' ⟨rfl,rfl⟩;first|rw[d]|rw[hb])
   go_quiet (fail)
   go_wp2
   go_ret3
   exact⟨_,_,0,rfl,λh=>absurd h l,λ_=>⟨c.1.symm,c.2.symm,rfl⟩,_,rfl⟩
  .have c:=jh (k h o);clear g j k t u v x y;go_enter func240,ntmps240;go_wp2_with (go_at_call 68;refine (jI _ _).mono ?_;rintro e w' ⟨rfl,rfl⟩;first|rw[d]|rw[hb])
   go_quiet (fail)
   go_wp2
   go_ret3
   exact⟨_,_,0,rfl,λh=>absurd h l,λ_=>⟨c.1.symm,c.2.symm,rfl⟩,_,rfl⟩
def He{a b:Int}(h:(a<0/\b<0)\/(0<=a/\0<=b)):a*b=((a.natAbs*b.natAbs:Nat):Int):=by
 have c:(a*b).natAbs=a.natAbs*b.natAbs:=Int.natAbs_mul a b;have d:0<=a*b:=by
  rcases h with⟨x,y⟩|⟨x,y⟩
  .exact Int.mul_nonneg_of_nonpos_of_nonpos od od
  .exact Int.mul_nonneg x y
 rw[<-c];omega
def DY{a b:Int}(h:(a<0/\0<=b)\/(0<=a/\b<0)):a*b = -((a.natAbs*b.natAbs:Nat):Int):=by
 have c:(a*b).natAbs=a.natAbs*b.natAbs:=Int.natAbs_mul a b;have d:0 <= -(a*b):=by
  rcases h with⟨x,y⟩|⟨x,y⟩
  .rw[<-Int.neg_mul];exact Int.mul_nonneg od y
  .rw[<-Int.mul_neg];exact Int.mul_nonneg x od
 rw[<-c];omega
def Ur(a b:Int)(w:cg)(f:kE a)(hb:kE b):Calls prog 242 #[.i a,.i b] w (P2 w (mulN a b)):=by
 have o:=aX f;have p:=aX hb;have n:=λw=>DX a.natAbs b.natAbs od od w;have s:mulN a b=kF (a*b):=by unfold mulN;rw[if_pos ⟨f,hb⟩]
 rw[s];have k:(a*b).natAbs=a.natAbs*b.natAbs:=Int.natAbs_mul a b;have⟨j,g,q,d,h⟩:∃j g:Nat,a.natAbs*b.natAbs / 18446744073709551616=j/\a.natAbs*b.natAbs % 18446744073709551616=g/\(kF (a*b)=(0,11)/\(j≠0\/j=0/\(1152921504606846976:Int)<(g:Int))\/kF (a*b)=(a*b,0)/\j=0/\((g:Int)<=1152921504606846976)/\g=a.natAbs*b.natAbs):=by
  refine⟨_,_,rfl,rfl,?_⟩
  by_cases h:kE (a*b)
  .have:=aX h;exact .inr ⟨by unfold kF;rw[if_pos h],od,od,od⟩
  .have : ¬(-1152921504606846976<=a*b/\a*b<=1152921504606846976):=λc=>h (zj c);exact .inl ⟨by unfold kF;rw[if_neg h],od⟩
 rw[q,d]at n;have HM:=jh n;clear n q d s;have m:=jh k;clear k o p;rcases h with⟨e,h|⟨rfl,h⟩⟩|⟨e,rfl,h,d⟩
 .rw[e];have x:((j:Int) != 0):=by rw[bne_iff_ne];omega
  clear e h;go_enter func242,ntmps242;go_wp2_with (first
   | (go_at_call 68;refine (jI _ _).mono ?_;rintro e w' ⟨rfl,rfl⟩;first|rw[f]|rw[hb])
   | (go_at_call 239;first|((with_reducible refine (o8 _ _ f).mono ?_);rintro e w' ⟨rfl,rfl⟩)|((with_reducible refine (o8 _ _ hb).mono ?_);rintro e w' ⟨rfl,rfl⟩))
   | (go_at_call 93;refine (HM _).mono ?_;rintro e w' ⟨rfl,rfl⟩))
  go_ret2;exact⟨rfl,rfl⟩
 .rw[e];clear e;go_enter func242,ntmps242;go_wp2_with (first
   | (go_at_call 68;refine (jI _ _).mono ?_;rintro e w' ⟨rfl,rfl⟩;first|rw[f]|rw[hb])
   | (go_at_call 239;first|((with_reducible refine (o8 _ _ f).mono ?_);rintro e w' ⟨rfl,rfl⟩)|((with_reducible refine (o8 _ _ hb).mono ?_);rintro e w' ⟨rfl,rfl⟩))
   | (go_at_call 93;refine (HM _).mono ?_;rintro e w' ⟨rfl,rfl⟩))
  go_ret2;exact⟨rfl,rfl⟩
 .rw[e];have⟨r,t,l⟩:∃r,a*b=r/\(decide (a<0)=decide (b<0)/\r=(g:Int)\/decide (a<0) = !decide (b<0)/\r = -(g:Int)):=by
   refine⟨_,rfl,?_⟩;rcases (by omega:(a<0/\b<0)\/(0<=a/\0<=b)\/(a<0/\0<=b)\/(0<=a/\b<0))with h|h|h|h
   .exact .inl ⟨by rw[qh7];omega,by rw[He (.inl h),d]⟩
   .exact .inl ⟨by rw[qh7];omega,by rw[He (.inr h),d]⟩
   .exact .inr ⟨by rw[<-decide_not,qh7];omega,by rw[DY (.inl h),d]⟩
   .exact .inr ⟨by rw[<-decide_not,qh7];omega,by rw[DY (.inr h),d]⟩
  rw[t];clear e t d m;cases u:decide (a<0)<;>cases v:decide (b<0)<;>rw[u,v]at l<;>rcases l with⟨l,rfl⟩|⟨l,rfl⟩<;>first|cases l|skip
  all_goals
   go_enter func242,ntmps242;go_wp2_with (first
    | (go_at_call 68;refine (jI _ _).mono ?_;rintro e w' ⟨rfl,rfl⟩;first|rw[f]|rw[hb])
    | (go_at_call 239;first|((with_reducible refine (o8 _ _ f).mono ?_);rintro e w' ⟨rfl,rfl⟩)|((with_reducible refine (o8 _ _ hb).mono ?_);rintro e w' ⟨rfl,rfl⟩))
    | (go_at_call 93;refine (HM _).mono ?_;rintro e w' ⟨rfl,rfl⟩))
   go_ret2;exact⟨rfl,rfl⟩
