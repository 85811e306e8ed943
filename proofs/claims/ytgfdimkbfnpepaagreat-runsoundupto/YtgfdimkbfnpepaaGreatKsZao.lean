import Derived.Test.YtgfdimkbfnpepaaGreatKsZan
namespace Go.Proofs.YtgfdimkbfnpepaaGreat
set_option linter.all false
open Go.Proofs.Tryz
open Go.ChangeShapes Go.WideShapes Go.ChangeAt Go.RowKit Go.Shelf
set_option maxRecDepth 100000
set_option maxHeartbeats 400000
attribute [local go_sem] Oper.semAt_some
abbrev Item (O:Nat->Prop) (w:World):={ p:Nat×Va×Value // aA (λb=>¬O b) w p.2.1 p.2.2/\p.2.1.size<=20000000 }
def encI {O:Nat->Prop}{w:World}(x:Item O w):Array Value:=#[.i (x.1.1:Int),x.1.2.2]
def vQ {O:Nat->Prop}{w:World}(l:List (Item O w)):List Va:=l.map λx=>x.1.2.1
def Ag{α:Type}{n:Nat}{b:World->World->Prop}{I:List α->World->Prop}{c:Code->List α->World->Prop}{xs:List α}{W a:World}{A:Act}(d:KeepsFrom n W a)(e:b W a)(f:I xs a):ownPostG n b I c xs W .normal A a:=⟨d,e,f⟩
def OL{O:Nat->Prop}{w:World}(l:List (Item O w))(x:Item O w):vQ (l++[x])=vQ l++[x.1.2.1]:=by unfold vQ;rw[qc2];rfl
def dB.zB{O c:Nat->Prop}{w A A':World}{row:Option Nat}(h:dB O w c A)(a:A.grownBy A' row)(g:∀r,row=some r->w.heap.size<=r):dB O w c A' :=
 ⟨a.os.trans h.os,a.tape.trans h.tape,a.output.trans h.output,ki h.size a.size,λb d f=>(a.block b (jz d h.size) (λe=>by have:=g b e.symm;omega)).trans (h.block b d f),h.new⟩
def Src.one{O:Nat->Prop}{w:World}{y:Va}{k n a:Int}{s:ByteArray}{c:Option Addr}{al ac:Nat}{ta:Option Addr}{tl tc:Nat}{na:Option Addr}{d nc:Nat}{T:TypeId}(h:aA (λb=>¬O b) w y (bg k n a s c al ac ta tl tc na d nc)) :
 Src O (w.alloc (.cells #[.i k,.i n,.i a,.string s,.slice c al ac,.slice ta tl tc,.slice na d nc] T)) [y] (.slice (some ⟨w.heap.size,0,none⟩) 1 1):=by
 refine⟨[bg k n a s c al ac ta tl tc na d nc],?_,rfl,λi x u e f=>?_⟩
 .have:=gZ.new w T #[.i k,.i n,.i a,.string s,.slice c al ac,.slice ta tl tc,.slice na d nc] 1 1;simpa[flat,nodeCells,bg]using this
 .cases i with
  | zero =>
   simp only[kl,qk]at e f;subst e;subst f;exact (dB.grow (O:=O) (aK _)).lies h
  | succ i=>simp at e
def qy{w:World}{b:Nat}{T:TypeId}{x:Value}(h:w.heap[b]?=some (.cells #[x] T)):w.cell? ⟨b,0,none⟩=some x:=by simp[World.cell?,h]
def We{w:World}{b:Nat}{T:TypeId}{x:Value}(h:w.heap[b]?=some (.cells #[x] T)):w.frozen? ⟨b,0,none⟩=false:=by simp[World.frozen?,h]
def LP{w:World}{b:Nat}{T:TypeId}{x:Value}(h:w.heap[b]?=some (.cells #[x] T)):¬fe w b:=by rintro⟨cs,e,d,a,c⟩;rw[h]at a;cases a;simp at c
def NB{O c:Nat->Prop}{X Y:World}(h:dB O X c Y)(f:∀b,O b->∃cs e,X.heap[b]?=some (.cells cs e))(n:Nat):KeepsFrom n X Y :=
 ⟨h.size,λk o _ a g=>(h.block k (qq.1 a).1 (λd=>by obtain⟨cs,e,i⟩:=f k d;rw[i]at a;cases a;cases g)).trans a⟩
section
variable {B:Nat}{O:Nat->Prop}{w:World}{mb:Nat}{en:En}{aC:Int}{m:Ma}
def Fh{l:List Va}{I:Option Addr}{c:Nat}{V:Nat->Value}(h:dm B O w mb en aC m)(hl:aT (λb=>¬O b) w l I V)(hz:vsizes l<=20000000)(ba:m.st.length+l.length<=100000000):Calls prog 154 #[.pointer (some ⟨mb,0,none⟩),.slice I l.length c] w (jK B O w mb en aC (bz m l)):=by
 refine (callsIn_wide (n:=5)).1 ?_;refine callsIn_of_wp_marks func154 rfl trivial ?_ rfl;simp only[ntmps154,je1,jn,xT,Nat.reduceAdd,Nat.reduceSub,jh0,jg7,List.push_toArray,List.append_toArray,qf0,qd2]
 gi_wp2_with (refine⟨trivial,?_⟩;gi_at_call 191;refine (TJ Fence.wide _ trivial rfl _ _ _ _).mono ?_;rintro e w' ⟨rfl,rfl⟩)
 obtain⟨p,z⟩:∃p,((w.alloc (.cells #[.pointer (some ⟨mb,0,none⟩)] 85)).alloc (.cells #[.i 0] 31)).alloc (.cells #[.slice I l.length c] 28)=p:=⟨_,rfl⟩;rw[z];have F:w.grownBy p none:=by rw[<-z];exact aJ (aJ (aK _) (aK _)) (aK _)
 have ai:p.heap.size=w.heap.size+3:=by rw[<-z];simp
 have hA2:p.cell? ⟨w.heap.size,0,none⟩=some (.pointer (some ⟨mb,0,none⟩)):=by rw[<-z];exact JJ (aJ (aK _) (aK _)) (qy (qT w _))
 have hA4:p.heap[w.heap.size+1]?=some (.cells #[.i 0] 31):=by rw[<-z];have:=qT (w.alloc (.cells #[.pointer (some ⟨mb,0,none⟩)] 85)) (.cells #[.i 0] 31);rw[yb]at this;exact l5 this (aK _)
 have an:p.cell? ⟨w.heap.size+1+1,0,none⟩=some (.slice I l.length c):=by rw[<-z];have:=qT ((w.alloc (.cells #[.pointer (some ⟨mb,0,none⟩)] 85)).alloc (.cells #[.i 0] 31)) (.cells #[.slice I l.length c] 28);rw[yb,yb]at this;exact qy this
 have ad:aT (λb=>¬O b) p l I V:=(dB.grow (O:=O) F).U5 hl;have ar:=h.grow F;have g:∀b,w.heap.size<=b->¬O b:=λb hb L=>by have:=h.high b L;omega
 obtain⟨b,aE,Z⟩:∃b,(l≠[]->∀q o,I=some ⟨q,o,none⟩->b=q)/\b<p.heap.size/\¬O b:=by
  cases l with
  | nil=>exact⟨w.heap.size,λh=>absurd rfl h,od,g _ (qv _)⟩
  | cons x r =>
   obtain⟨q,o,e,hq,k,n,a,s,aa,al,ac,ta,tl,tc,na,nl,nc,_,h0,_⟩:=hl.2.1 0 ot;exact⟨q,λ_ q' o' e'=>by rw[e]at e';cases e';rfl,by have:=kd w _ h0;simp only at this;omega,hq⟩
 obtain⟨R,bf,bd,N⟩:∃R:List (Item O p),R.length=l.length/\(∀r (h:r<R.length),encI R[r]=#[.i ((R.length - 1 - r:Nat):Int),V (R.length - 1 - r)])/\vQ R=l.reverse:=by
  refine⟨List.ofFn λr:Fin l.length=>⟨(l.length - 1 - r.1,l[l.length - 1 - r.1],V (l.length - 1 - r.1)),ad.2.2 _ od,ki (fO (zj od)) hz⟩,ot,λr h=>by simp[encI],?_⟩;apply List.ext_getElem
  .simp[vQ]
  .intro i f d;simp[vQ]
 refine wpIn_rangeFunc_ownH rfl ov (gf:=210) (lb:=#[.pointer (some ⟨w.heap.size+1+1,0,none⟩)]) rfl trivial (enters_of func210 oA rfl)
  (Je (encs:=encI) Fence.wide 4 trivial rfl ov (w.heap.size+1+1) b c I V R od bd p (λhx q o e=>aE (λe2=>hx (ju (by rw[bf,e2];rfl))) q o e) od (by rw[bf];exact an) (λj hj=>(ad.2.1 j od).ae λ_ _ _=>trivial))
  (λf d o=>⟨(d o).1.trans (f o).1,(d o).2.trans (f o).2⟩) (λW l o o' hl h _ _ q=>by have C:=grownBy_putObj' W l o';have ah:=(qq.1 h).1;exact⟨qn (C.block (w.heap.size+1+1) od oB),qn (C.block b od oB)⟩) (Below.refl _ _) (λ_=>rfl)
  (λpre W=>(∃O',dm B O' W mb en aC { m with st:=(vQ pre).reverse++m.st }/\dB O p O' W)/\(vQ pre).any yN=false)
  (λcd pre W=>cd =.ret/\(vQ pre).any yN=true/\W.cell? ⟨w.heap.size+1,0,none⟩=some (.i 13)/\∃O' m',m'.paid=m.paid/\m'.said=m.said/\dm B O' W mb en aC m'/\dB O w O' W)
  ?own ?ownx ⟨⟨O,ar,dB.refl _ _⟩,rfl⟩
  (λx a' W=>∃Bx k n a s aa al ac ta tl tc na nl nc,p.heap.size<=Bx/\x.1.2.2=bg k n a s aa al ac ta tl tc na nl nc/\W.heap[Bx]?=some (.cells #[.i k,.i n,.i a,.string s,.slice aa al ac,.slice ta tl tc,.slice na nl nc] 36) /\
   a' = { tmps:=#[.pointer (some ⟨mb,0,none⟩),.slice I l.length c,.pointer (some ⟨w.heap.size,0,none⟩),undef,.pointer (some ⟨w.heap.size+1,0,none⟩),undef,.pointer (some ⟨Bx,0,none⟩),.slice I l.length c,.func (.func 210) #[] #[.pointer (some ⟨w.heap.size+1+1,0,none⟩)],.i (x.1.1:Int),x.1.2.2,undef,undef,undef,undef,undef,undef,undef],defers:=[] })
  ?ownA ?assign ?body ?done ?stop
 case own =>
  rintro pre A A' row ⟨⟨O',f,d⟩,t⟩ C H;exact⟨⟨O',f.turn C λr e=>f.no (H r e).2,d.zB C λr e=>(H r e).1⟩,t⟩
 case ownx =>
  rintro cd pre A A' row ⟨f,d,t,O',m',h4,h5,h6,h7⟩ C H;exact⟨f,d,(cell_kept t C λr e=>(H r e).2),O',m',h4,h5,h6.turn C λr e=>h6.no (H r e).2,h7.zB C λr e=>by have:=(H r e).1;omega⟩
 case ownA =>
  rintro x a' _ A A' row ⟨Bx,k,n,a,s,aa,al,ac,ta,tl,tc,na,nl,nc,f,d,t,h4⟩ C H;exact⟨Bx,k,n,a,s,aa,al,ac,ta,tl,tc,na,nl,nc,f,d,(Cx C (λr e=>DZ (H r e).2) ⟨_,_,_,t,ot⟩).trans t,h4⟩
 case assign =>
  rintro lo pre ⟨⟨ix,y,v⟩,hL,aj⟩ W K ⟨⟨O',f,d⟩,t⟩ S;obtain⟨k,n,a,s,aa,al,ac,ta,tl,tc,na,nl,nc,rfl⟩:=hL.bg;dsimp only[encI,bg]
  gi_wp2
  refine S _ _ ((KeepsOthers.alloc _ _).from _) (λo=>⟨?_,?_⟩) ⟨⟨O',f.grow (aK _),d.trans (dB.grow (aK _))⟩,t⟩ ⟨W.heap.size,k,n,a,s,aa,al,ac,ta,tl,tc,na,nl,nc,d.size,rfl,qT _ _,rfl⟩
  .exact qn ((aK _).block (w.heap.size+1+1) (by have:=d.size;omega) ot)
  .exact qn ((aK _).block b (by have:=d.size;omega) ot)
 case body =>
  rintro lo pre ⟨⟨ix,y,v⟩,hL,aj⟩ a' W br ⟨r,H⟩ ⟨⟨O',f,d⟩,t⟩ ⟨Bx,k,n,a,s,aa,al,ac,ta,tl,tc,na,nl,nc,bx,ev,aO,rfl⟩ bw;dsimp only at hL aj ev;subst ev;have X:=d.lies hL;have HS:=jh (RL (X.ae (ok':=λ_=>True) λ_ _ _=>trivial) aj W (bM _ _));have q2:=(qn (d.block w.heap.size od (g _ (qv _)))).trans hA2;have Q:=(d.block (w.heap.size+1) od (g _ od)).trans hA4;have KB:=λ(w':World) (h:W.grownBy w' none)=>And.intro (cO (l5 aO h)) (And.intro (JJ h q2) (And.intro (qy (l5 Q h)) (We (l5 Q h))));have M:¬O' (w.heap.size+1):=λL=>by rcases d.new _ L with h|h;exact g _ od h;omega
  have ax:¬O' (w.heap.size+1+1):=λL=>by rcases d.new _ L with h|h;exact g _ od h;omega
  have au:¬O' b:=λL=>by rcases d.new _ L with h|h;exact Z.2 h;omega
  have ca:W.grownBy W none:=bM _ _;unfold bg at HS
  by_cases hb:200<wrap64 (vsum y:Nat)
  .gi_wp2_with (refine⟨trivial,?_⟩;gi_at_call 192;refine (CallsIn.inRound lo (callsIn_wide.2 HS)).mono ?_;rintro e w1 ⟨rfl,u⟩)
   have k4:=l5 Q u;have E:w1.grownBy (w1.setCell ⟨w.heap.size+1,0,none⟩ (.i 13)) (some (w.heap.size+1)):=dY (bM _ _) _ _ _;refine⟨(KeepsFrom.of_grownBy u (λj e=>by cases e)).trans ((KeepsOthers.setCell _ _ _).from _),rfl,by simp[vQ,yN,hb],World.cell?_setCell_same' _ _ _ (by rw[qy k4];rfl),O',{ m with st:=(vQ pre).reverse++m.st },rfl,rfl,(f.grow u).turn E (λr e=>by cases e;exact⟨LP k4,M⟩),(((dB.grow F).trans d).trans (dB.grow u)).zB E (λr e=>by cases e;omega)⟩
  .have G:((vQ pre).reverse++m.st).length+[y].length<=100000000:=by simp[vQ];omega
   obtain⟨HM,H1,H2,H3,bm,bl,bh,bp⟩:=wi (λ(w1:World) (hS:W.grownBy w1 none)=>Ha (l:=[y]) ((f.grow hS).grow (aK _)) (Src.one (T:=36) ((dB.grow (O:=O') hS).lies X)) G) f d t ax au Z ai;generalize ay:ownPostG _ _ _ _ _ _=QQ;have bo:=jh ay;clear ay;clear f d t X ax au Z ai H br aO q2 Q M hA2 hA4 an ad ar g aE bd N F z hl hz ba G h
   gi_wp2_with (first
    | (refine⟨trivial,?_⟩;gi_at_call 192;refine (CallsIn.inRound lo (callsIn_wide.2 HS)).mono ?_;rintro e w1 ⟨rfl,u⟩)
    | (refine⟨trivial,?_⟩;gi_at_call 115;have bb:=CallsIn.inRound lo ((callsIn_wide (n:=2)).2 (HM w1 u));refine bb.mono ?_;clear bb HM HS;rintro e w2 ⟨rfl,O2,ao,J⟩;have bj:=jh ao;have bk:=jh J;clear ao J;refine qh6 λbc=>?_))
   apply bc;clear bc;rename_i K1 aq;refine aq _ _ ?_;clear aq
   gi_wp2
   rw[<-bo.out];have J:=bk.out;have hF:dB O' W O2 w2:=((dB.grow u).trans (dB.grow (aK _))).trans bj;have d:=H2.out;have t:=H3.out;have ai:=bp.out;have ah:w.heap.size+1+1<W.heap.size/\b<W.heap.size:=by have:=d.size;have:=bh.out.1;omega
   have g1:KeepsFrom p.heap.size W w2:=NB hF (dm.cells H1) _;have g2:YP (w.heap.size+1+1) b W w2:=λo=>⟨qn (hF.block (w.heap.size+1+1) ah.1 bm),qn (hF.block b ah.2 bl)⟩;have g4:=d.trans hF;have g5:yN y=false:=jc2 od;have g6:∀x:Item O p,x.1.2.1=y->(∃O',dm B O' w2 mb en aC { m with st:=(vQ (pre++[x])).reverse++m.st }/\dB O p O' w2)/\(vQ (pre++[x])).any yN=false:=λx e=>by
    rw[OL,e];refine⟨⟨O2,?_,g4⟩,?_⟩
    .rw[qe7,ub];exact J
    .rw[List.any_append,t,List.any_cons,List.any_nil,g5];rfl
   exact Ag g1 g2 (g6 _ rfl)
 case done =>
  rintro D ys W hD rfl ⟨⟨O',f,d⟩,t⟩ S;have Q:=(d.block (w.heap.size+1) od (g _ od)).trans hA4;have z0:=qy Q;have z1:=We Q
  gi_wp2
  have U:=(KeepsOthers.setCell W ⟨w.heap.size+1,0,none⟩ (.i 0)).same D _ S rfl;refine⟨ot,.inl ⟨_,_,rfl,run_takeDeferred U,?_⟩⟩;have ab:=cell_kept (World.cell?_setCell_same' W ⟨w.heap.size+1,0,none⟩ (.i 0) (by rw[z0];rfl)) (grownBy_putObj' _ D (.deferred none)) (λr e=>by cases e;exact⟨_,U,rfl⟩);have M:¬O' (w.heap.size+1):=λL=>by rcases d.new _ L with h|h;exact g _ od h;omega
  have E:W.grownBy (W.setCell ⟨w.heap.size+1,0,none⟩ (.i 0)) (some (w.heap.size+1)):=dY (bM _ _) _ _ _;have Y:=f.turn E (λr e=>by cases e;exact⟨LP Q,M⟩);refine⟨.i 0,by simp[results,results154,go_sem,ab],O',(((dB.grow F).trans d).zB E (λr e=>by cases e;omega)).zB (grownBy_putObj' _ D (.deferred none)) (λr e=>by cases e;omega),?_⟩;rw[N,List.any_reverse]at t;rw[N,je2]at Y;unfold bz;rw[oa,t,if_neg ot];exact⟨rfl,Y.turn (grownBy_putObj' _ D (.deferred none)) (λr e=>by cases e;exact Y.no ⟨_,U,rfl⟩)⟩
 case stop =>
  rintro D cd pre W hD ⟨k,hk,rfl⟩ ⟨rfl,P,bq,O',m',e1,e2,f,d⟩ S
  gi_wp2
  refine⟨ot,.inl ⟨_,_,rfl,run_takeDeferred S,?_⟩⟩;have ab:=cell_kept bq (grownBy_putObj' _ D (.deferred none)) (λr e=>by cases e;exact⟨_,S,rfl⟩);refine⟨.i 13,by simp[results,results154,go_sem,ab],O',d.zB (grownBy_putObj' _ D (.deferred none)) (λr e=>by cases e;omega),?_⟩;have az:l.any yN=true:=by rw[<-List.any_reverse,<-N];rw[qh4]at P|-;obtain⟨y,hy,bt⟩:=P;exact⟨y,by simp only[vQ,qa7]at hy|-;obtain⟨x,hx,e⟩:=hy;exact⟨x,qf2 hx,e⟩,bt⟩
  unfold bz;rw[oa,az,if_pos rfl];exact⟨ov,rfl,m',e1,e2,f.turn (grownBy_putObj' _ D (.deferred none)) (λr e=>by cases e;exact f.no ⟨_,S,rfl⟩)⟩
end
open Go.ChangeShapes Go.WideShapes Go.ChangeAt Go.RowKit
section
variable {B:Nat}{O O':Nat->Prop}{w w':World}{mb:Nat}{en:En}{aC:Int}{m:Ma}{k n a:Int}{s:ByteArray}{aa:Option Addr}{al ac:Nat}{ta:Option Addr}{tl tc:Nat}{na:Option Addr}{nl nc:Nat}{sv fv:Value}{us fs:List Value}
def Ue:(prog.info? 68).map (λi=>(i.zero,i.size,i.bytes))=some (some (.agg #[.n0,.i 0,.n0,.n0]),4,80):=oA
def OX (us:List Value):Prop:=∀u∈us,∃ra rl rc op wa wl wc aa al ac,u=yF ra rl rc op wa wl wc aa al ac
def wE{us:List Value}(h:OX us):(flat us).length=us.length*4/\∀y∈flat us,y.oneCell'=true:=by
 refine⟨rY λu b=>?_,λy a=>?_⟩
 .obtain⟨c,f,d,op,g,i,wc,aa,al,ac,e⟩:=h u b;rw[e];rfl
 .simp only[flat,jh1]at a;obtain⟨u,b,a⟩:=a;obtain⟨c,f,d,op,g,i,wc,aa,al,ac,e⟩:=h u b;rw[e]at a;simp[yF,nodeCells]at a;rcases a with rfl|rfl|rfl|rfl<;>rfl
def jc.form:∀{f:List Fr}{us:List Value},jc B O w f us->OX us/\us.length=f.length
 | [],[],_=>⟨λu d=>by simp at d,rfl⟩
 | f::fs,u::us,h=>by
  obtain⟨c,b⟩:=h;obtain⟨i,j,k,wc,aa,ac,e,g,rfl,_⟩:=c;refine⟨λv a=>?_,by simp[b.form.2]⟩;rcases xb.1 a with rfl|a
  .exact⟨_,_,_,_,_,_,_,_,_,_,rfl⟩
  .exact b.form.1 v a
 | [],_::_,h=>h.elim
 | _::_,[],h=>h.elim
def jc.snoc{f:Fr}{u:Value}(a:wU B O w f u):∀{l:List Fr}{us:List Value},jc B O w l us->jc B O w (l++[f]) (us++[u])
 | [],[],_=>⟨a,trivial⟩
 | f::fs,u::us,h=>⟨h.1,jc.snoc a h.2⟩
 | [],_::_,h=>h.elim
 | _::_,[],h=>h.elim
def jc.split{f:Fr}{u:Value} : ∀{l:List Fr}{us:List Value},jc B O w (l++[f]) (us++[u])->jc B O w l us/\wU B O w f u
 | [],[],h=>⟨trivial,h.1⟩
 | f::fs,u::us,h=>⟨⟨h.1,(jc.split h.2).1⟩,(jc.split h.2).2⟩
 | [],u::us,h=>by have:=h.2;cases us<;>exact this.elim
 | f::fs,[],h=>by have:=h.2;cases fs<;>exact this.elim
def kV{f:Fr}{u:Value} : ∀{l:List Fr}{us:List Value},us.length=l.length->keptBs (l++[f]) (us++[u])=keptBs l us++lM f u
 | [],[],_=>by simp[keptBs]
 | f::fs,u::us,h=>by simp only[qd2,keptBs,kV (by simpa using h),ub]
def bU.apart(h:bU B O w mb en aC m k n a s aa al ac ta tl tc na nl nc sv fv us fs):(∀g,sv.ownBlock=some g->g≠mb/\fv.ownBlock≠some g)/\(∀g∈keptBs m.fr.reverse fs,g≠mb/\fv.ownBlock≠some g/\sv.ownBlock≠some g)/\fv.ownBlock≠some mb:=by
 have hF:∀{g:Nat} {cs:Array Value},w.heap[g]?=some (.cells cs 36)->fv.ownBlock≠some g:=λb e=>aD h.own b ov e.symm;refine⟨λg e=>?_,λg d=>?_,λe=>aD h.own h.blk ov e.symm⟩
 .rcases h.jL.own.2 with⟨c,_⟩|⟨j,f,i,c,_,b,_⟩
  .rw[c]at e;cases e
  .rw[c]at e;cases e;exact⟨dC b h.blk ov,hF b⟩
 .obtain⟨_,cs,b⟩:=h.sZ.mine g d;exact⟨dC b h.blk ov,hF b,λe=>(qb5.1 h.nodup).2.2 g (by simp[e]) g d rfl⟩
def bU.push(h:bU B O w mb en aC m k n a s aa al ac ta tl tc na nl nc sv fv us fs)(i:dB O w O' w'){st:List Va}{f:Fr}{u sv' c:Value}{us':List Value}(d:w'.heap[mb]?=some (.cells (yG en aC m.paid m.aO k n a s aa al ac ta tl tc na nl nc sv' c) 65))
 (hstk:sU B O' w' st.reverse sv' us') (hown:kU B w' c (fs++[u])) (hu:wU B O' w' f u) (hnd:(sv'.ownBlock.toList++(keptBs m.fr.reverse fs++lM f u)).Nodup) (hO:∀g,O g->fv.ownBlock≠some g->O' g) (hk:∀g∈keptBs m.fr.reverse fs,w'.heap[g]?=w.heap[g]?)
 (hfv:∀g,c.ownBlock=some g->O' g) (hcells:∀b,O' b->∃cs e,w'.heap[b]?=some (.cells cs e)):bU B O' w' mb en aC { m with st:=st,fr:=f::m.fr } k n a s aa al ac ta tl tc na nl nc sv' c us' (fs++[u]):=by
 have o:=h.apart;have q:=h.sZ.form.2;refine⟨d,i.lies h.said,hstk,hown,?_,?_,⟨hO _ h.mine.1 o.2.2,hfv⟩,λb p=>?_,hcells,h.num⟩
 .simp only[qb0];exact jc.snoc hu (h.sZ.kept i λg j=>⟨hO g (h.sZ.mine g j).1 (o.2.1 g j).2.1,hk g j⟩)
 .simp only[qb0];rw[kV q];exact hnd
 .rcases i.new b p with l|l
  .exact h.low b l
  .have:=h.low _ h.mine.1;have:=h.high _ h.mine.1;omega
def WY{w:World}{g:Nat}{T:TypeId}{x0 a b c:Value}(h:w.heap[g]?=some (.cells #[x0,a,b,c] T (0,0))):w.cell? ⟨g,0,none⟩=some x0/\w.cell? ⟨g,1,none⟩=some a/\w.cell? ⟨g,2,none⟩=some b/\w.cell? ⟨g,3,none⟩=some c:=by simp[World.cell?,h]
def IW (B:Nat) (w:World) (mb:Nat) (fv:Value) (us:List Value) (e:Ending) (w':World):Prop :=
 e =.returned (.tuple #[])/\∃fv' w1,Gr w fv w1 fv'/\kU B w1 fv' us/\w'=w1.setCell ⟨mb,15,none⟩ fv'
def Dm{ra:Option Addr}{rl rc:Nat}{op:Int}{wa:Option Addr}{wl wc:Nat}{ba:Option Addr}{bl bc:Nat}(h:bU B O w mb en aC m k n a s aa al ac ta tl tc na nl nc sv fv us fs)(r:m.fr.length<=100000000):Calls prog 29 #[.pointer (some ⟨mb,0,none⟩),.agg #[.slice ra rl rc,.i op,.slice wa wl wc,.slice ba bl bc]] w (IW B w mb fv (fs++[yF ra rl rc op wa wl wc ba bl bc])):=by
 have A:=aK (w:=w) (.cells #[.slice ra rl rc,.i op,.slice wa wl wc,.slice ba bl bc] 68);have y:=qT w (.cells #[.slice ra rl rc,.i op,.slice wa wl wc,.slice ba bl bc] 68);have HM:=jh h;have j:Hid (fs.length<=100000000):=by have:=h.sZ.form.2;rw[ue]at this;exact (by omega:fs.length<=100000000)
 have G:Hid (B<=w.heap.size):=by have:=h.low _ h.mine.1;have:=h.high _ h.mine.1;exact (by omega:B<=w.heap.size)
 have J:=h.high _ h.mine.1;clear h r;go_enter func29,ntmps29;go_wp2_with fail;refine qh7 (S:=λw'=>w'.heap[w.heap.size]?=some (.cells #[.slice ra rl rc,.i op,.slice wa wl wc,.slice ba bl bc] 68)) oA y (λd=>?_);have g:w.grownBy (w.alloc (.cells #[.slice ra rl rc,.i op,.slice wa wl wc,.slice ba bl bc] 68)).drew none:=fK A;generalize (w.alloc _).drew=F at *;have c:=jh (HM.grow g);have x:=(iM c.blk).2.2.2.2.2.2.2.2.1;have D:=JJ (aK (w:=F) (.cells #[.slice ra rl rc,.i op,.slice wa wl wc,.slice ba bl bc] 68)) x;refine fG 0 4 ?_;refine fG 1 5 ?_;refine fG 2 6 ?_;refine fG 3 7 ?_;refine LX 5 9 (v:=.agg #[.slice ra rl rc,.i op,.slice wa wl wc,.slice ba bl bc]) ⟨_,rfl,rfl,rfl,λQ I=>?_⟩ ?_
 .have z:=WY I;go_simp
 simp only[Act.put,pS];have f:=aB (o:=.cells #[.slice ra rl rc,.i op,.slice wa wl wc,.slice ba bl bc] 68) d;refine kA (rs:=[4,6]) oA ot ?_;refine jx rfl (λK b=>?_) (jx rfl (λK b=>?_) kj)
 focus
  go_simp;refine b _ _ d (λ_=>?_);clear b K;refine kA (rs:=[6]) oA ot ?_;refine jx rfl (λK b=>?_) kj;go_simp;refine b _ _ f (λ_=>?_);clear b K
 rotate_left
 focus
  go_simp;refine b _ _ f (λ_=>?_);clear b K;refine kA (rs:=[4]) oA ot ?_;refine jx rfl (λK b=>?_) kj;go_simp;refine b _ _ f (λ_=>?_);clear b K
 all_goals
  refine kA (rs:=[7]) oA ot ?_;refine jx rfl (λK b=>?_) kj;refine yx rfl (.tmp 8) (.tmp 10) 63 rfl B 68 underlying63 Ue rfl ov fv fs.length (flat fs) rfl (xo c.own _) (.slice (some ⟨F.heap.size,0,none⟩) 1 1) 1 [.slice ra rl rc,.i op,.slice wa wl wc,.slice ba bl bc] rfl rfl (gZ.new _ _ _ _ _) (by intro u E;simp at E;rcases E with rfl|rfl|rfl|rfl<;>rfl) (by have:=j.out;unfold maxLen;omega) (by have:=j.out;omega) (ki G (ki g.size (aK _).size)) ?_;intro P L C t _;obtain⟨M,N,rfl⟩:=nX C;have HO:=jh C;have H:=jh t;have p:=c.out.blk;have q:=(t.block (jz (c.high _ c.mine.1) (aK _).size) c.apart.2.2.symm).trans (aB p);have R:=iM q;have l:=(t.block (qq.1 f).1 (λe=>je3 _ (kp HM.own _ e.symm).2)).trans f;clear C t p q;refine b _ _ l (λ_=>?_);clear b K;refine fG 8 12 ?_;refine fG 9 13 ?_;refine kA (rs:=[10]) oA ot ?_;refine jx rfl (λK b=>?_) kj;go_simp;refine b _ _ ((Below.heap_setCell _ _ _ _ (by show w.heap.size≠mb;omega)).trans l) (λ_=>?_);clear b K;refine qd6 oA ?_ _;go_wp2_with fail;refine zv (v:=.tuple #[]) (by simp[results,results29,go_sem]) rfl ?_;refine⟨rfl,_,L,?_,?_,rfl⟩
  .exact Gr.trans ⟨kL (aJ g (aK _)),.inl rfl⟩ H
  .unfold kU;rw[qS,bV];exact HO
def Dp{ra:Option Addr}{rc:Nat}{wa:Option Addr}{wc:Nat}{ba:Option Addr}{bc:Nat}{f:Fr}{L VW VA:Nat->Value}(h:dm B O w mb en aC m)(x:m.fr.length<=100000000)(r:f.op≠67/\bD f.op)(U:cK (λb=>¬O b) w f.rest ra L)(V:cK (λb=>¬O b) w f.row wa VW)(S:aT (λb=>¬O b) w f.aside ba VA)(T:f.rest.length<=rc/\f.row.length<=wc/\f.aside.length<=bc) :
 Calls prog 29 #[.pointer (some ⟨mb,0,none⟩),.agg #[.slice ra f.rest.length rc,.i f.op,.slice wa f.row.length wc,.slice ba f.aside.length bc]] w (K8 B O w mb en aC { m with fr:=f::m.fr }):=by
 obtain⟨k,n,a,s,aa,al,ac,ta,tl,tc,na,nl,nc,sv,fv,us,fs,h⟩:=h;refine (Dm h x).mono ?_;rintro e w' ⟨rfl,c,y,v,K,rfl⟩;have o:=h.apart;have j:y.grownBy (y.setCell ⟨mb,15,none⟩ c) (some mb):=dY (bM _ _) _ _ _;have D:=dB.gr v h.mine.2;have I:qx O fv c mb:=.inl ⟨h.mine.1,o.2.2⟩;have F:dB (qx O fv c) y (qx O fv c) (y.setCell ⟨mb,15,none⟩ c):=dB.ofRow j (λq e=>by cases e;exact I);have t:=D.trans F;have E:=(v.block (h.high _ h.mine.1) o.2.2.symm).trans h.blk;have p:=(nG E c).2.1;have d:∀g,O g->g≠mb->fv.ownBlock≠some g->(y.setCell ⟨mb,15,none⟩ c).heap[g]?=w.heap[g]?:=λg A Q R=>(j.block g (jz (h.high g A) v.1.size) (by simpa using Q)).trans (v.block (h.high g A) R.symm);have G:∀g,c.ownBlock=some g->g≠mb:=λg e u=>by
  subst u;rcases v.2 with z|⟨W,z,C⟩
  .exact o.2.2 (by rw[<-z,e])
  .rw[e]at z;cases z;have:=h.high _ h.mine.1;omega
 have H:lM f (yF ra f.rest.length rc f.op wa f.row.length wc ba f.aside.length bc)=[]:=by unfold lM;rw[if_neg r.1]
 refine⟨rfl,_,t,_,_,_,_,_,_,_,_,_,_,_,_,_,_,_,_,_,h.push t p (h.jL.kept t λg e=>⟨.inl ⟨h.jL.mine g e,(o.1 g e).2⟩,d g (h.jL.mine g e) (o.1 g e).1 (o.1 g e).2⟩) (iT K λg e=>j.block g (kp K g e).2 (by simpa using G g e))
  ⟨ra,rc,wa,wc,ba,bc,L,VW,rfl,r.2,T,t.Kl U,t.Kl V,λe=>absurd e r.1,λ_=>⟨VA,t.U5 S⟩⟩ (by rw[H,qe3];exact h.nodup) (λg A J=>.inl ⟨A,J⟩) (λg C=>d g (h.sZ.mine g C).1 (o.2.1 g C).1 (o.2.1 g C).2.1) (λg e=>.inr e) (λb l=>?_)⟩
 by_cases e:b=mb
 .subst e;exact⟨_,_,p⟩
 .rcases l with l|l
  .rw[d b l.1 e l.2];exact h.cells b l.1
  .rcases K.2 with⟨u,_⟩|⟨g,N,P,u,_,M,_⟩
   .rw[u]at l;cases l
   .rw[u]at l;cases l;rw[j.block _ (qq.1 M).1 (by simpa using e)];exact⟨_,_,M⟩
end
open Pe
structure Mc where
 B:Nat
 mb:Nat
 en:En
 aC:Int
 W:World
 O:Nat->Prop
abbrev Mc.res (c:Mc) (ps:Nat->Ma->Prop):pq where
 G i W ok:=∃m O,ps i m/\dm c.B O W c.mb c.en c.aC m/\dB c.O c.W O W/\∀b,ok b->¬O b
 grow:=λi W ok w ⟨m,O,h0,h1,h2,h3⟩ hg=>⟨m,O,h0,h1.grow hg,h2.trans (dB.grow hg),λb hb hO=>by
  rcases hb with hb|hb
  .exact h3 b hb.2 hO
  .have:=h1.high b hO;omega⟩
def YG (mb:Nat):Value:=.pointer (some ⟨mb,0,none⟩)
def XW (mb:Nat):A1:=.one (.d (.v (YG mb)))
def BF{O a ok:Nat->Prop}{w w':World}(h:dB O w a w')(d:∀b,ok b->¬O b):∀b,b<w.heap.size->ok b->¬a b/\w'.heap[b]?=w.heap[b]?:=λb g e =>
 ⟨λf=>by rcases h.new b f with c|c;exact d b e c;omega,h.block b g (d b e)⟩
def ec:Go.Proofs.YtgfdimkbfnpepaaGreat.Out->Int
 | .no e _=>e
 | _=>0
def oP:Go.Proofs.YtgfdimkbfnpepaaGreat.Out->Ma->Prop
 | .go m=>λx=>x=m
 | .no e m=>λx=>e≠0/\x.paid=m.paid/\x.said=m.said
 | .stuck=>λ_=>False
def EM (m:Ma):Ma->Prop:=λx=>x=m
def p2 (p q:Ma->Prop):Nat->Ma->Prop
 | 0=>p
 | _+1=>q
def HM (c:Mc) (p q:Ma->Prop) (f:FuncId) (args:List A1) (res:AV):Prop:=@Holds (c.res (p2 p q)) prog (@Sp.mk f (XW c.mb::args) res ⟨some (0,1)⟩)
def HO (c:Mc) (m:Ma) (f:FuncId) (args:List A1) (o:Go.Proofs.YtgfdimkbfnpepaaGreat.Out):Prop:=HM c (EM m) (oP o) f args (.of (iA (ec o)))
section
variable {c:Mc}{p q p' q':Ma->Prop}{f:FuncId}{args:List A1}{res:AV}{m:Ma}{o:Go.Proofs.YtgfdimkbfnpepaaGreat.Out}
def HM.at(h:HM c p q f args res){ps:Nat->Ma->Prop}(i:Nat)(hi:∀x,ps i x->p x:=by exact λ_ h=>h)(s:∀x,q x->ps (i+1) x:=by exact λ_ h=>h) : @Holds (c.res ps) prog (@Sp.mk f (XW c.mb::args) res ⟨some (i,i+1)⟩) :=
 have r:=@Holds.OT (c.res (p2 p q)) _ _ h
 @Holds.mk (c.res ps) _ _ r λA w B ⟨m,O,k,l,n,o⟩ t=>(@Holds.runM (c.res (p2 p q)) _ _ h 0 1 rfl A w B ⟨m,O,hi m k,l,n,o⟩ t).mono
  λe w' ⟨d,a,⟨b,O',u,v,y,z⟩,g,j⟩=>⟨d,a,⟨b,O',s b u,v,y,z⟩,g,j⟩
def HM.mono(h:HM c p q f args res)(hi:∀x,p' x->p x)(a:∀x,q x->q' x):HM c p' q' f args res:=h.at (ps:=p2 p' q') 0 hi a
def Sq (p:Ma->Prop) (l:List (Ma->Prop)):Nat->Ma->Prop
 | 0=>p
 | i+1=>(l[i]?).getD λ_=>False
def runM(l:List (Ma->Prop))(T:Hints){f:FuncId}{a:Func}(y:prog.funcs[f]?=some a)(d:List { s:Sp // @Holds (c.res (Sq (EM m) l)) prog s }){args:List A1}{b:AV}{ob:List Prop}
 (h:asked (Wd (some (0,l.length)) prog a (a.body.getD .skip) T [] (d.map (·.1)) (XW c.mb::args))=some (b,[],(d.map (·.1)).map (λs=>s.args=s.args),ob)) (hob:∀p∈ob,p) (hq:∀x,Sq (EM m) l l.length x->q x:=by exact λ_ h=>h)
 (hb:a.body.isSome=true:=by kernel_rfl) (hn:(a.name == "runtime.NumGoroutine")=false:=by kernel_rfl):HM c (EM m) q f args b:=by
 have:=@YJ (c.res (Sq (EM m) l)) ⟨some (0,l.length)⟩ f a y T [] ot d _ _ ob h hob hb hn;have v:=@Holds.OT (c.res (Sq (EM m) l)) _ _ this;exact @Holds.mk (c.res (p2 (EM m) q)) _ _ v λE w F ⟨m,O,o,r,t,u⟩ z=>(@Holds.runM (c.res (Sq (EM _) l)) _ _ this 0 l.length rfl E w F ⟨m,O,o,r,t,u⟩ z).mono
  λe w' ⟨j,g,⟨i,O',A,B,C,D⟩,k,n⟩=>⟨j,g,⟨i,O',hq i A,B,C,D⟩,k,n⟩
def sI(l:List Ma)(T:Hints){f:FuncId}{a:Func}(g:prog.funcs[f]?=some a)(b:List { s:Sp // @Holds (c.res (Sq (EM m) (l.map EM++[oP o]))) prog s }){args:List A1}{ob:List Prop}
 (hob:∀p∈ob,p) (h:asked (Wd (some (0,l.length+1)) prog a (a.body.getD .skip) T [] (b.map (·.1)) (XW c.mb::args))=some (.of (iA (ec o)),[],(b.map (·.1)).map (λs=>s.args=s.args),ob):=by kernel_rfl)
 (hb:a.body.isSome=true:=by kernel_rfl) (hn:(a.name == "runtime.NumGoroutine")=false:=by kernel_rfl):HO c m f args o:=by
 have d:(l.map EM++[oP o]).length=l.length+1:=ot
 refine runM (q:=oP o) (l.map EM++[oP o]) T g b (by rw[d];exact h) hob (λx e=>?_) hb hn;rw[d]at e;simpa[Sq]using e
def eH(l:List Ma){f:FuncId}{a:Func}(d:prog.funcs[f]?=some a)(b:List { s:Sp // @Holds (c.res (Sq (EM m) (l.map EM++[oP o]))) prog s }){args:List A1}
 (h:asked (Wd (some (0,l.length+1)) prog a (a.body.getD .skip) [] [] (b.map (·.1)) (XW c.mb::args))=some (.of (iA (ec o)),[],(b.map (·.1)).map (λs=>s.args=s.args),[]):=by kernel_rfl)
 (hb:a.body.isSome=true:=by kernel_rfl) (hn:(a.name == "runtime.NumGoroutine")=false:=by kernel_rfl):HO c m f args o:=sI l [] d b ot h hb hn
def Ol(l:List Ma)(T:Hints){f:FuncId}{a:Func}(d:prog.funcs[f]?=some a)(b:List { s:Sp // @Holds (c.res (Sq (EM m) (l.map EM))) prog s }){args:List A1}{ob:List Prop}
 (hob:∀p∈ob,p) (hq:∀x,Sq (EM m) (l.map EM) l.length x->oP o x) (h:asked (Wd (some (0,l.length)) prog a (a.body.getD .skip) T [] (b.map (·.1)) (XW c.mb::args))=some (.of (iA (ec o)),[],(b.map (·.1)).map (λs=>s.args=s.args),ob):=by kernel_rfl)
 (hb:a.body.isSome=true:=by kernel_rfl) (hn:(a.name == "runtime.NumGoroutine")=false:=by kernel_rfl):HO c m f args o :=
 runM (q:=oP o) (l.map EM) T d b (by rw[qh0];exact h) hob (by rw[qh0];exact hq) hb hn
def HO.of(u:∀(args:Array Value) (w:World),(callFunc f args).run prog w =.ok (.enter f args) w)(h:∀O w vs,dm c.B O w c.mb c.en c.aC m->dU (gm (λ_=>none) (λb=>¬O b) w) args vs->Calls prog f (YG c.mb::vs).toArray w (jK c.B O w c.mb c.en c.aC o)):HO c m f args o :=
 @Holds.mk (c.res (p2 (EM m) (oP o))) _ _ u λok w vs r g=>by
  obtain⟨x,O,rfl,s,hF,j⟩:=r
  match vs,g with
  | v::vs,⟨y,g⟩ =>
   rw[bW y];refine (h O w vs s (g.mono λa v h=>gm.keep ⟨qv _,λb _ t=>⟨j b t,λ_=>rfl⟩⟩ (λ_ _ e=>e) a v h)).mono ?_;rintro e w' ⟨O',d,i⟩;refine⟨d.size,λb=>¬O' b,?_,BF d j,?_⟩
   .cases o with
    | stuck=>exact i.elim
    | no k m=>obtain⟨l,_,z,n,p,q⟩:=i;exact⟨z,O',⟨l,n,p⟩,q,hF.trans d,λb h=>h⟩
    | go m=>exact⟨m,O',rfl,i.2,hF.trans d,λb h=>h⟩
   .cases o with
    | stuck=>exact i.elim
    | no k m=>exact⟨_,i.2.1,fI.v _⟩
    | go m=>exact⟨_,i.1,fI.v _⟩
def HM.of{m':Ma}(p:∀(args:Array Value) (w:World),(callFunc f args).run prog w =.ok (.enter f args) w)(h:∀O w vs,dm c.B O w c.mb c.en c.aC m->dU (gm (λ_=>none) (λb=>¬O b) w) args vs->Calls prog f (YG c.mb::vs).toArray w (K8 c.B O w c.mb c.en c.aC m')):HM c (EM m) (EM m') f args undefA :=
 @Holds.mk (c.res (p2 (EM m) (EM m'))) _ _ p λok w vs l g=>by
  obtain⟨x,O,rfl,n,hF,i⟩:=l
  match vs,g with
  | v::vs,⟨q,g⟩ =>
   rw[bW q];refine (h O w vs n (g.mono λa v h=>gm.keep ⟨qv _,λb _ o=>⟨i b o,λ_=>rfl⟩⟩ (λ_ _ e=>e) a v h)).mono ?_;rintro e w' ⟨j,O',d,k⟩;exact⟨d.size,λb=>¬O' b,⟨m',O',rfl,k,hF.trans d,λb h=>h⟩,BF d i,_,j,fI.v _⟩
def HO.go{B mb:Nat}{en:En}{aC:Int}{O:Nat->Prop}{w:World}(h:HO ⟨B,mb,en,aC,w,O⟩ m f args o)(g:dm B O w mb en aC m){vs:List Value}(c:dU (gm (λ_=>none) (λb=>¬O b) w) args vs):Calls prog f (YG mb::vs).toArray w (jK B O w mb en aC o):=by
 refine (@Holds.runM (Mc.res ⟨B,mb,en,aC,w,O⟩ (p2 (EM m) (oP o))) _ _ h 0 1 rfl (λb=>¬O b) w (YG mb::vs) ⟨m,O,rfl,g,dB.refl _ _,λ_ h=>h⟩ ⟨fI.v _,c⟩).mono ?_;rintro e w' ⟨_,l,⟨k,O',a,d,j,p⟩,_,v,rfl,i⟩;have c:=bW i;subst c;refine⟨O',j,?_⟩
 cases o with
 | stuck=>exact a.elim
 | no n m=>exact⟨a.1,rfl,k,a.2.1,a.2.2,d⟩
 | go m=>cases a;exact⟨rfl,d⟩
def SC{x:Va}{st:List Va}(g:m.st=x::st):HM c (EM m) (EM { m with st:=st }) 118 [] (.of (pF x)) :=
 @Holds.mk (c.res (p2 (EM m) (EM _))) _ _ (bK func118) λok w o i f=>by
  obtain⟨y,O,rfl,j,hF,k⟩:=i
  match o,f with
  | [v],⟨n,_⟩ =>
   rw[bW n];refine (yB j g).mono ?_;rintro e w' ⟨u,rfl,l,a,d⟩;exact⟨a.size,λb=>¬O b,⟨_,O,rfl,d,hF.trans a,λb h=>h⟩,BF a k,u,rfl,FJ l⟩
def HO_pay:HO c m 116 [] (uH c.aC m .go):=HO.of (bK func116) λO w d a b=>by
 match d,b with
 | [],_=>exact Ff a
def vE{l:List Va}(h:bz m l ≠ .stuck):vsizes l<=20000000:=by
 unfold bz at h;split at h
 .exact absurd rfl h
 .omega
def len_vsizes:∀l:List Va,l.length<=vsizes l
 | []=>kB _
 | x::l=>by have:=eP x;have:=len_vsizes l;simp only[vsizes,jn];omega
def IX{l:List Va}(n:Nat)(hk:okVs l)(i:n=7\/l=[])(b:bz m l ≠ .stuck)(f:m.st.length<=50000000):HO c m 154 [.one (.d (.s n (vasD l)))] (bz m l):=HO.of (bK func154) λO w j g e=>by
 match j,e with
 | [v],⟨e,_⟩ =>
  obtain⟨a,c,V,rfl,k,h⟩:=lV hk i e;have:=len_vsizes l;have:=vE b;exact Fh g h (vE b) od
def SE(k n a:Int)(s:ByteArray)(i j q:Nat)(args:List Va)(types:List Ty)(code:List Tr)(hk:okV (.mk k n a s args types code))(A:i=7\/args=[])(B:j=2\/types=[])(C:q=5\/code=[])(o:bz m [.mk k n a s args types code] ≠ .stuck)(t:m.st.length<=50000000) :
 HO c m 154 [.one (.d (.s 7 [[.v (.i k),.v (.i n),.v (.i a),.v (.string s),.s i (vasD args),.s j (tysD types),.s q (ndsD code)]]))] (bz m [.mk k n a s args types code]):=HO.of (bK func154) λO w G D p=>by
 match G,p with
 | [v],⟨p,_⟩ =>
  have E:fI (λb=>¬O b) w (.s 7 (vasD [.mk k n a s args types code])) v:=by
   obtain⟨H,c,U,rfl,u,z,I,g⟩:=fH (p:fI _ w (.s 7 _) v);refine .s U u z (λx r e=>?_) (λx r y d h f=>?_) (λx r y d h f=>?_)
   .match x,e with
    | 0,e=>cases e;rfl
   .match x,h with
    | 0,h =>
     cases h
     match y,f with
     | 0,f|1,f|2,f|3,f|4,f|5,f|6,f=>exact (g 0 _ _ _ rfl rfl).1
   .match x,h with
    | 0,h =>
     cases h
     match y,f with
     | 0,f=>cases f;exact (g 0 _ 0 _ rfl rfl).2
     | 1,f=>cases f;exact (g 0 _ 1 _ rfl rfl).2
     | 2,f=>cases f;exact (g 0 _ 2 _ rfl rfl).2
     | 3,f=>cases f;exact (g 0 _ 3 _ rfl rfl).2
     | 4,f =>
      cases f;have:=(g 0 _ 4 _ rfl rfl).2;rcases A with rfl|rfl
      .exact this
      .exact gG this
     | 5,f =>
      cases f;have:=(g 0 _ 5 _ rfl rfl).2;rcases B with rfl|rfl
      .exact this
      .exact gG this
     | 6,f =>
      cases f;have:=(g 0 _ 6 _ rfl rfl).2;rcases C with rfl|rfl
      .exact this
      .exact gG this
  obtain⟨a,c,V,rfl,J,F⟩:=lV (n:=7) (l:=[.mk k n a s args types code]) ⟨hk,trivial⟩ (.inl rfl) E;exact Fh D F (vE o) oB
def OZ(f:Fr)(i j k:Nat)(l:f.op≠67/\bD f.op)(t:okNs f.rest)(p:i=5\/f.rest=[])(u:okNs f.row)(q:j=5\/f.row=[])(x:okVs f.aside)(r:k=7\/f.aside=[])(o:m.fr.length<=50000000) :
 HM c (EM m) (EM { m with fr:=f::m.fr }) 29 [.agg [.d (.s i (ndsD f.rest)),.d (.v (.i f.op)),.d (.s j (ndsD f.row)),.d (.s k (vasD f.aside))]] undefA:=HM.of (bK func29) λO w G z n=>by
 match G,n with
 | [v],⟨n,_⟩ =>
  obtain⟨H,rfl,B⟩:=n
  match H,B with
  | [a,b,c,d],⟨C,D,E,F,_⟩ =>
   obtain⟨N,P,J,rfl,e,hR⟩:=xU t p C;obtain⟨Q,wc,K,rfl,g,A⟩:=xU u q E;obtain⟨L,M,I,rfl,h,y⟩:=lV x r F;have:=bW D;subst this;exact Dp z od l hR A y ⟨e,g,h⟩
abbrev sm (m:Ma) (s:List Va):Ma:={ m with st:=s }
variable {ps:Nat->Ma->Prop}
def pu (h:HM c p q f args res) (i:Nat) (hi:∀x,ps i x->p x:=by exact λ_ h=>h) (hj:∀x,q x->ps (i+1) x:=by exact λ_ h=>h):{ s:Sp // @Holds (c.res ps) prog s }:=⟨_,h.at i hi hj⟩
def Hd.up{s:Sp}{R:pq}(h:Hd s)(e:s.mv=mv0) : @Holds R prog s:=by obtain⟨f,a,r,v⟩:=s;cases e;exact @Holds.mk R _ _ (@Holds.OT res0 _ _ h) (@Holds.runN res0 _ _ h rfl)
def up {s:Sp}{R:pq}(h:Hd s) (e:s.mv=mv0:=by rfl):{ s:Sp // @Holds R prog s }:=⟨s,Hd.up h e⟩
def X0(m:Ma)(x:Va)(s:List Va):HM c (EM (sm m (x::s))) (EM (sm m s)) 118 [] (.of (pF x)):=SC rfl
def tk (m:Ma) (x:Va) (s:List Va) (i:Nat) (hi:∀y,ps i y->EM (sm m (x::s)) y:=by exact λ_ h=>h) (hj:∀y,EM (sm m s) y->ps (i+1) y:=by exact λ_ h=>h):{ s:Sp // @Holds (c.res ps) prog s }:=pu (X0 m x s) i hi hj
end
set_option maxHeartbeats 4000000
def gK{n:Int}(h:kE n=true):-1152921504606846976<=n/\n<=1152921504606846976:=ja5 h
def Zi{k:IntKind}{a b:Int}{w w':World}(h:a=b)(c:w'=w):Ending.returned (.int k a) =.returned (.int k b)/\w'=w:=by rw[h];exact⟨rfl,c⟩
def P2 (w:World) (r:Int×Int) (e:Ending) (w':World):Prop:=e =.returned (.tuple #[.i r.1,.i r.2])/\w'=w
def GM(a:Int)(w:World):Calls prog 212 #[.i a] w (P2 w (kF a)):=by
 unfold kF;cases h:kE a
 all_goals
  simp only[qg5,↓reduceIte];go_enter func212,ntmps212;go_wp2_with (go_at_call 78;refine (jI _ _).mono ?_;rintro e w' ⟨rfl,rfl⟩;rw[h]);go_ret2;exact⟨rfl,rfl⟩
def Lc(a b:Int)(w:World):Calls prog 200 #[.i a,.i b] w (P2 w (addN a b)):=by
 unfold addN;have c:=jh (GM (a+b));cases d:kE a<;>cases f:kE b
 all_goals simp only[qg5,and_self,and_false,false_and,↓reduceIte]
 rotate_left 3
 generalize kF (a+b)=r at c|-;have g:wrap64 (a+b)=a+b:=by have:=gK d;have:=gK f;unfold wrap64;omega
 rotate_right 3
 all_goals
  go_enter func200,ntmps200;go_wp2_with (first
   | (go_at_call 78;refine (jI _ _).mono ?_;rintro e w' ⟨rfl,rfl⟩;first|rw[d]|rw[f])
   | (go_at_call 212;refine (c _).mono ?_;rintro e w' ⟨rfl,rfl⟩))
  go_ret2;exact⟨rfl,rfl⟩
def Vo(a b:Int)(w:World):Calls prog 201 #[.i a,.i b] w (P2 w (Iu a b)):=by
 unfold Iu;have c:=jh (GM (a - b));cases d:kE a<;>cases f:kE b
 all_goals simp only[qg5,and_self,and_false,false_and,↓reduceIte]
 rotate_left 3
 generalize kF (a - b)=r at c|-;have g:wrap64 (a - b)=a - b:=by have:=gK d;have:=gK f;unfold wrap64;omega
 rotate_right 3
 all_goals
  go_enter func201,ntmps201;go_wp2_with (first
   | (go_at_call 78;refine (jI _ _).mono ?_;rintro e w' ⟨rfl,rfl⟩;first|rw[d]|rw[f])
   | (go_at_call 212;refine (c _).mono ?_;rintro e w' ⟨rfl,rfl⟩))
  go_ret2;exact⟨rfl,rfl⟩
def o8(a:Int)(w:World)(h:kE a=true):Calls prog 198 #[.i a] w λe w'=>e =.returned (.int .u64 (a.natAbs:Int))/\w'=w:=by
 obtain⟨c,d⟩:=gK h;rcases (by omega:a<0\/0<=a)with b|b
 all_goals
  go_enter func198,ntmps198
  go_wp2
  go_ret;exact Zi od rfl
def TA(a:Int)(w:World):Calls prog 167 #[.i a] w (P2 w (EJ a)):=by
 unfold EJ;cases b:kE a
 all_goals simp only[qg5,↓reduceIte]
 rotate_left
 have c:(a.natAbs:Int)<=1152921504606846976:=by have:=gK b;omega
 rotate_right
 all_goals
  go_enter func167,ntmps167;go_wp2_with (first
   | (go_at_call 78;refine (jI _ _).mono ?_;rintro e w' ⟨rfl,rfl⟩;rw[b])
   | (go_at_call 198;refine (o8 _ _ b).mono ?_;rintro e w' ⟨rfl,rfl⟩))
  go_ret2;exact⟨rfl,rfl⟩
def ES{a b q r:Int}(f:b≠0)(e:b*q+r=a)(d:0<=r)(h:r<(b.natAbs:Int)):a / b=q/\a % b=r:=by
 have c:a % b=r:=by
  rw[<-e,Int.mul_add_emod_self_left];rcases Int.lt_or_gt_of_ne f with i|j
  .rw[<-Int.emod_neg];exact Int.emod_eq_of_lt d od
  .exact Int.emod_eq_of_lt d od
 have g:b*(a / b)=b*q:=by have:=Int.mul_ediv_add_emod a b;rw[c]at this;omega
 exact⟨Int.eq_of_mul_eq_mul_left f g,c⟩
def Cs(a:Int){b:Int}(c:b≠0):(a.tdiv b).natAbs<=a.natAbs/\(a.tmod b).natAbs<b.natAbs/\(0<=a->0<=a.tmod b)/\(a<=0->a.tmod b<=0)/\b*a.tdiv b+a.tmod b=a:=by
 refine⟨Int.natAbs_tdiv_le_natAbs a b,?_,λh=>Int.tmod_nonneg b h,λh=>?_,Int.mul_tdiv_add_tmod a b⟩
 .rw[Int.natAbs_tmod];exact Nat.mod_lt _ od
 .have:=Int.tmod_nonneg (a:=-a) b od;rw[Int.neg_tmod]at this;omega
def R4(a:Int){b:Int}(c:b≠0):(0<=a.tmod b->a / b=a.tdiv b/\a % b=a.tmod b)/\(a.tmod b<0->0<b->a / b=a.tdiv b - 1/\a % b=a.tmod b+b)/\(a.tmod b<0->b<0->a / b=a.tdiv b+1/\a % b=a.tmod b - b):=by
 obtain⟨_,e,_,_,d⟩:=Cs a c;generalize a.tdiv b=q at *;generalize a.tmod b=r at *;refine⟨λh=>ES c d h od,λh g=>ES c ?_ od od,λh f=>ES c ?_ od od⟩
 .rw[Int.mul_sub];omega
 .rw[Int.mul_add];omega
def Qi(a b:Int)(w:World)(d:kE a=true)(f:kE b=true):Calls prog 199 #[.i a,.i b] w λe w'=>∃q r o,e =.returned (.tuple #[.i q,.i r,.i o])/\(b=0->q=0/\r=0/\o=6)/\(b≠0->q=a / b/\r=a % b/\o=0)/\∃n,w'=w.drewN n:=by
 by_cases g:b=0
 .subst g;go_enter func199,ntmps199;go_wp2_with (go_at_call 78;refine (jI _ _).mono ?_;rintro e w' ⟨rfl,rfl⟩;first|rw[d]|rw[f])
  go_ret3
  exact⟨0,0,6,rfl,λ_=>⟨rfl,rfl,rfl⟩,λh=>absurd rfl h,0,rfl⟩
 .obtain⟨j,k,l⟩:=R4 a g;obtain⟨u,v,x,y,z⟩:=Cs a g;have s:=gK d;have t:=gK f;have I:(b==0)=false:=ud.2 g;obtain⟨E,F⟩:-1152921504606846976<=a.tdiv b/\a.tdiv b<=1152921504606846976:=by omega
  obtain⟨G,H⟩:-1152921504606846976<=a.tmod b/\a.tmod b<=1152921504606846976:=od
  obtain⟨A,B⟩:=s;obtain⟨C,D⟩:=t;have m:=jh g;rcases (by omega:0<=a.tmod b\/a.tmod b<0/\0<b\/a.tmod b<0/\b<0)with h|⟨h,p⟩|⟨h,p⟩
  .have c:=jh (j h);clear j k l u v x y z;go_enter func199,ntmps199;go_wp2_with (go_at_call 78;refine (jI _ _).mono ?_;rintro e w' ⟨rfl,rfl⟩;first|rw[d]|rw[f])
   go_quiet (fail)
   go_wp2
   go_ret3
   exact⟨_,_,0,rfl,λh=>absurd h m,λ_=>⟨c.1.symm,c.2.symm,rfl⟩,_,rfl⟩
  .have c:=jh (k h p);clear j k l u v x y z;go_enter func199,ntmps199;go_wp2_with (go_at_call 78;refine (jI _ _).mono ?_;rintro e w' ⟨rfl,rfl⟩;first|rw[d]|rw[f])
   go_quiet (fail)
   go_wp2
   go_ret3
   exact⟨_,_,0,rfl,λh=>absurd h m,λ_=>⟨c.1.symm,c.2.symm,rfl⟩,_,rfl⟩
  .have c:=jh (l h p);clear j k l u v x y z;go_enter func199,ntmps199;go_wp2_with (go_at_call 78;refine (jI _ _).mono ?_;rintro e w' ⟨rfl,rfl⟩;first|rw[d]|rw[f])
   go_quiet (fail)
   go_wp2
   go_ret3
   exact⟨_,_,0,rfl,λh=>absurd h m,λ_=>⟨c.1.symm,c.2.symm,rfl⟩,_,rfl⟩
def He{a b:Int}(h:(a<0/\b<0)\/(0<=a/\0<=b)):a*b=((a.natAbs*b.natAbs:Nat):Int):=by
 have c:(a*b).natAbs=a.natAbs*b.natAbs:=Int.natAbs_mul a b;have d:0<=a*b:=by
  rcases h with⟨x,y⟩|⟨x,y⟩
  .exact Int.mul_nonneg_of_nonpos_of_nonpos od od
  .exact Int.mul_nonneg x y
 rw[<-c];omega
def DY{a b:Int}(h:(a<0/\0<=b)\/(0<=a/\b<0)):a*b = -((a.natAbs*b.natAbs:Nat):Int):=by
 have c:(a*b).natAbs=a.natAbs*b.natAbs:=Int.natAbs_mul a b;have d:0 <= -(a*b):=by
  rcases h with⟨x,y⟩|⟨x,y⟩
  .rw[<-Int.neg_mul];exact Int.mul_nonneg od y
  .rw[<-Int.mul_neg];exact Int.mul_nonneg x od
 rw[<-c];omega
def Ur(a b:Int)(w:World)(f:kE a=true)(g:kE b=true):Calls prog 202 #[.i a,.i b] w (P2 w (mulN a b)):=by
 have p:=gK f;have q:=gK g;have o:=λw=>DX a.natAbs b.natAbs od od w;have t:mulN a b=kF (a*b):=by unfold mulN;rw[if_pos ⟨f,g⟩]
 rw[t];have l:(a*b).natAbs=a.natAbs*b.natAbs:=Int.natAbs_mul a b;obtain⟨k,j,s,d,h⟩:∃k j:Nat,a.natAbs*b.natAbs / 18446744073709551616=k/\a.natAbs*b.natAbs % 18446744073709551616=j/\(kF (a*b)=(0,11)/\(k≠0\/k=0/\(1152921504606846976:Int)<(j:Int))\/kF (a*b)=(a*b,0)/\k=0/\((j:Int)<=1152921504606846976)/\j=a.natAbs*b.natAbs):=by
  refine⟨_,_,rfl,rfl,?_⟩
  by_cases h:kE (a*b)=true
  .have:=gK h;exact .inr ⟨by unfold kF;rw[if_pos h],od,od,od⟩
  .have : ¬(-1152921504606846976<=a*b/\a*b<=1152921504606846976):=λc=>h (je7 c);exact .inl ⟨by unfold kF;rw[if_neg h],od⟩
 rw[s,d]at o;have HM:=jh o;clear o s d t;have n:=jh l;clear l p q;rcases h with⟨e,h|⟨rfl,h⟩⟩|⟨e,rfl,h,d⟩
 .rw[e];have y:((k:Int) != 0)=true:=by rw[bne_iff_ne];omega
  clear e h;go_enter func202,ntmps202;go_wp2_with (first
   | (go_at_call 78;refine (jI _ _).mono ?_;rintro e w' ⟨rfl,rfl⟩;first|rw[f]|rw[g])
   | (go_at_call 198;first|((with_reducible refine (o8 _ _ f).mono ?_);rintro e w' ⟨rfl,rfl⟩)|((with_reducible refine (o8 _ _ g).mono ?_);rintro e w' ⟨rfl,rfl⟩))
   | (go_at_call 213;refine (HM _).mono ?_;rintro e w' ⟨rfl,rfl⟩))
  go_ret2;exact⟨rfl,rfl⟩
 .rw[e];clear e;go_enter func202,ntmps202;go_wp2_with (first
   | (go_at_call 78;refine (jI _ _).mono ?_;rintro e w' ⟨rfl,rfl⟩;first|rw[f]|rw[g])
   | (go_at_call 198;first|((with_reducible refine (o8 _ _ f).mono ?_);rintro e w' ⟨rfl,rfl⟩)|((with_reducible refine (o8 _ _ g).mono ?_);rintro e w' ⟨rfl,rfl⟩))
   | (go_at_call 213;refine (HM _).mono ?_;rintro e w' ⟨rfl,rfl⟩))
  go_ret2;exact⟨rfl,rfl⟩
 .rw[e];obtain⟨r,u,m⟩:∃r,a*b=r/\(decide (a<0)=decide (b<0)/\r=(j:Int)\/decide (a<0) = !decide (b<0)/\r = -(j:Int)):=by
   refine⟨_,rfl,?_⟩;rcases (by omega:(a<0/\b<0)\/(0<=a/\0<=b)\/(a<0/\0<=b)\/(0<=a/\b<0))with h|h|h|h
   .exact .inl ⟨by rw[decide_eq_decide];omega,by rw[He (.inl h),d]⟩
   .exact .inl ⟨by rw[decide_eq_decide];omega,by rw[He (.inr h),d]⟩
   .exact .inr ⟨by rw[<-decide_not,decide_eq_decide];omega,by rw[DY (.inl h),d]⟩
   .exact .inr ⟨by rw[<-decide_not,decide_eq_decide];omega,by rw[DY (.inr h),d]⟩
  rw[u];clear e u d n;cases v:decide (a<0)<;>cases x:decide (b<0)<;>rw[v,x]at m<;>rcases m with⟨m,rfl⟩|⟨m,rfl⟩<;>first|cases m|skip
  all_goals
   go_enter func202,ntmps202;go_wp2_with (first
    | (go_at_call 78;refine (jI _ _).mono ?_;rintro e w' ⟨rfl,rfl⟩;first|rw[f]|rw[g])
    | (go_at_call 198;first|((with_reducible refine (o8 _ _ f).mono ?_);rintro e w' ⟨rfl,rfl⟩)|((with_reducible refine (o8 _ _ g).mono ?_);rintro e w' ⟨rfl,rfl⟩))
    | (go_at_call 213;refine (HM _).mono ?_;rintro e w' ⟨rfl,rfl⟩))
   go_ret2;exact⟨rfl,rfl⟩
