import Derived.Test.YtgfdimkbfnpepaaGreatKmZaw
namespace Go.Proofs.YtgfdimkbfnpepaaGreat
set_option linter.all false
open Go.Proofs.Tryz
open Go.ChangeShapes Go.WideShapes Go.ChangeAt Go.RowKit
set_option maxRecDepth 100000
set_option maxHeartbeats 4000000
def WQ (ok:Nat->Prop) (w:World) (r:Rs) (v:Value):Prop:=∃sa sc V k n a s aa al ac ta tl tc na nl nc,v =.agg #[.i r.code,.slice sa r.stack.length sc,.i k,.i n,.i a,.string s,.slice aa al ac,.slice ta tl tc,.slice na nl nc,.i r.aC,.i r.aO]/\r.stack.length<=sc/\aT ok w r.stack sa V/\aA ok w r.said (bg k n a s aa al ac ta tl tc na nl nc)
def PN (W:World) (r:Rs) (e:Ending) (w':World):Prop:=∃v,e =.returned v/\WQ (W.heap.size <= ·) w' r v/\W.grownBy w' none
def Wp{ok:Nat->Prop}{w:World}(e p:Int):WQ ok w ⟨e,[],zeroVa,p,0⟩ (.agg #[.i e,.n0,.i 0,.i 0,.i 0,.string ⟨#[]⟩,.n0,.n0,.n0,.i p,.i 0]) :=
 ⟨none,0,λ_=>.i 0,_,_,_,_,_,_,_,_,_,_,_,_,_,rfl,qv _,aT.nil _ _ _ _,rV _ _⟩
def I64_0:bD 0:=⟨ov,ov⟩
section
variable {ok:Nat->Prop}{W:World}{en:En}{nk nn np:Int}{nz:ByteArray}{az:List Tr}{na sa la:Option Addr}{nc sc lc:Nat}{s:List Ty}{l:List Va}{aC:Int}
abbrev ma0:Array Value:=#[.i 0,.i 0,.i 0,.i 0,.i 0,.i 0,.i 0,.i 0,.i 0,.i 0,.string ⟨#[]⟩,.n0,.n0,.n0,.n0,.n0]
def JP{B mb:Nat}{m w:World}{f:Value}{us:List Value}{q:Nat->Prop}(v:B<=mb)(k:w.heap[mb]?=some (.cells (yG en aC 0 0 0 0 0 ⟨#[]⟩ none 0 0 none 0 0 none 0 0 f (.n0)) 65))(s:B<=m.heap.size)
 (d:nI q m w f l.reverse us) (hg:∀b o,b<m.heap.size->b≠mb->w.cell? ⟨b,o,none⟩=m.cell? ⟨b,o,none⟩) (hO:∀b,¬q b->b≠mb) (hgas:bD aC) :
 dm B (λb=>b=mb\/f.ownBlock=some b) w mb en aC ⟨0,0,zeroVa,l,[]⟩:=by
 refine⟨_,_,_,_,_,_,_,_,_,_,_,_,_,f,_,us,[],k,rV _ _,⟨?_,d.len,λi x u z y=>?_,λg e=>.inr e⟩,qa2 _ _ _ _,trivial,?_,⟨.inl rfl,λg e=>by cases e⟩,?_,?_,I64_0,I64_0,hgas⟩
 .obtain⟨n,a⟩:=d.own;exact⟨n,a.imp id λ⟨g,c,j,e,t,r⟩=>⟨g,c,j,e,kh s t,r⟩⟩
 .have n:=(d.lies i x u z y).ae (ok':=λb=>¬(b=mb\/f.ownBlock=some b)/\b≠mb) λb k h=>⟨λa=>by
   rcases a with a|a
   .exact hO b h a
   .have:=(kp d.own b a).1;omega,hO b h⟩
  exact (n.same λb o k p=>hg b o p k.2).ae λb _ h=>h.1
 .cases f.ownBlock<;>simp[keptBs]
 .rintro b (rfl|e)
  .exact v
  .exact kh s (kp d.own b e).1
 .rintro b (rfl|e)
  .exact⟨_,_,k⟩
  .rcases d.own.2 with⟨rfl,_⟩|⟨g,c,j,rfl,_,h,_⟩
   .cases e
   .simp only[Value.ownBlock,qk]at e;subst e;exact⟨_,_,h⟩
def Fx{o:Oper}{a:Act}{w:World}{K:Act->World->Prop}{Q:Exit->Act->World->Prop}{b:Nat}{cs z:Array Value}{t:TypeId}(T:TypeId)(x y:Operand)(e:o.op =.store T x y)(f:a.eval x =.pointer (some ⟨b,0,none⟩))(g:a.eval y =.agg cs)(d:w.heap[b]?=some (.cells z t (0,0)))(i:z.size=cs.size)(hi:(prog.info? T).map (·.size)=some cs.size)(c:cs.all (·.oneCell')=true)
 (h:K (a.put o.dst undef) (w.setRow b cs)):o.wp prog a w K Q:=wp_store_row T x y e b cs f g t z d hi i c h
def nZ{w:World}{b:Nat}{z cs:Array Value}{t:TypeId}(a:w.heap[b]?=some (.cells z t (0,0))):(w.setRow b cs).heap[b]?=some (.cells cs t (0,0)):=by simp[World.setRow,yr,a]
def mQ(w:World)(b:Nat)(cs:Array Value):w.grownBy (w.setRow b cs) (some b) :=
 ⟨rfl,rfl,rfl,by simp[World.setRow],λk c a=>by simp[World.setRow,yr];intro e;exact absurd (by rw[e]) a⟩
def DW{B a:Nat}{d n w i:World}{z:Array Value}{c:Value}{us:List Value}(x:B<=d.heap.size)(p:d.grownBy n none)(q:n.grownBy w none)(j:w.grownBy i none)(s:d.heap.size<=a)(A:i.heap[a]?=some (.cells z 65 (0,0)))(f:nI (d.heap.size <= ·) n w c l.reverse us)(v:c.ownBlock≠some a)(k:bD aC) :
 ∃O,dm B O (i.setRow a (yG en aC 0 0 0 0 0 ⟨#[]⟩ none 0 0 none 0 0 none 0 0 c (.n0))) a en aC ⟨0,0,zeroVa,l,[]⟩/\d.grownBy (i.setRow a (yG en aC 0 0 0 0 0 ⟨#[]⟩ none 0 0 none 0 0 none 0 0 c (.n0))) none/\∀b,O b->d.heap.size<=b:=by
 have u:=mQ i a (yG en aC 0 0 0 0 0 ⟨#[]⟩ none 0 0 none 0 0 none 0 0 c (.n0));have r:nI (d.heap.size <= ·) n (i.setRow a (yG en aC 0 0 0 0 0 ⟨#[]⟩ none 0 0 none 0 0 none 0 0 c (.n0))) c l.reverse us:=⟨iT f.own λg e=>(u.block g (jz (kp f.own g e).2 j.size) (λy=>v (e.trans y))).trans (j.block g (kp f.own g e).2 ot),f.len,f.lies⟩;refine⟨_,JP (kh x s) (nZ A) (kh x p.size) r (λb o m t=>?_) (λb h e=>h od) k,aG (aJ (aJ p q) j) u s,?_⟩
 .exact qn ((u.block b (jz m (aJ q j).size) (λe=>by cases e;exact t rfl)).trans ((aJ q j).block b m ot))
 .rintro b (rfl|e)
  .exact s
  .exact kh p.size (kp f.own b e).1
def PS(w:World)(x y z:Obj):w.grownBy (((w.alloc x).alloc y).alloc z) none/\(((w.alloc x).alloc y).alloc z).heap[w.heap.size]?=some x/\(((w.alloc x).alloc y).alloc z).heap[w.heap.size+1]?=some y/\(((w.alloc x).alloc y).alloc z).heap[w.heap.size+1+1]?=some z:=by
 refine⟨aJ (aJ (aK _) (aK _)) (aK _),l5 (CJ _ _ _) (aK _),?_,?_⟩
 .have h:=CJ (w.alloc x) y z;rw[yb]at h;exact h
 .have h:=qT ((w.alloc x).alloc y) z;rw[yb,yb]at h;exact h
def sH{o:Oper}{a:Act}{w:World}{Q:Exit->Act->World->Prop}{b:Nat}{cs z:Array Value}{t:TypeId}{d:Array Oper}{c:List Oper}(e:o.guard=none)(T:TypeId)(x y:Operand)(j:o.op =.store T x y)(k:a.eval x =.pointer (some ⟨b,0,none⟩))(l:a.eval y =.agg cs)(i:w.heap[b]?=some (.cells z t (0,0)))(m:z.size=cs.size)(hi:(prog.info? T).map (·.size)=some cs.size)(f:cs.all (·.oneCell')=true)
 (h:wpList prog d Q c (a.put o.dst undef) (w.setRow b cs)):wpList prog d Q (o::c) a w:=wpList_plain e λ_ g=>Fx T x y j k l i m hi f (g _ _ h)
abbrev rs0:Array Value:=#[.i 0,.n0,.i 0,.i 0,.i 0,.string ⟨#[]⟩,.n0,.n0,.n0,.i 0,.i 0]
def Ca(w:World)(cs:Array Value):w.grownBy ((w.alloc (.cells rs0 38)).setRow w.heap.size cs) none/\((w.alloc (.cells rs0 38)).setRow w.heap.size cs).heap[w.heap.size]?=some (.cells cs 38) :=
 ⟨aG (aK _) (mQ _ _ _) (qv _),nZ (qT _ _)⟩
def zN{w:World}{g:Nat}{T:TypeId}{x0 b c d e f i j k l a:Value}(h:w.heap[g]?=some (.cells #[x0,b,c,d,e,f,i,j,k,l,a] T (0,0))) :
 w.cell? ⟨g,0,none⟩=some x0/\w.cell? ⟨g,1,none⟩=some b/\w.cell? ⟨g,2,none⟩=some c/\w.cell? ⟨g,3,none⟩=some d/\w.cell? ⟨g,4,none⟩=some e/\w.cell? ⟨g,5,none⟩=some f/\w.cell? ⟨g,6,none⟩=some i/\w.cell? ⟨g,7,none⟩=some j/\w.cell? ⟨g,8,none⟩=some k/\w.cell? ⟨g,9,none⟩=some l/\w.cell? ⟨g,10,none⟩=some a/\∀o,w.frozen? ⟨g,o,none⟩=false:=by
 simp[World.cell?,World.frozen?,h]
def Eu{k:Nat} : ∀{l:List Va},(∀x∈l,x.size<=k)->vsizes l<=l.length*k
 | [],_=>by simp[vsizes]
 | x::l,h=>by have b:=h x ot;have c:=Eu (l:=l) λy a=>h y (by simp[a]);simp only[vsizes,jn,jb0];omega
def Xz{O:Nat->Prop}{h b:World}{a:Option Addr}{c:Nat}{st:List Va}{us:List Value}(d:nI O h b (.slice a st.length c) st us)(k:h.grownBy b none)(g:Sm st)(o:st.length<=342):Calls prog 31 #[.slice a st.length c] b (Tu b st):=by obtain⟨m,n,V,e,_,j⟩:=uG (ok:=λ_=>True) d.own d.len (λi x u f l=>((d.lies i x u f l).ae λ_ _ _=>trivial).same (ni k)) (λ_ _=>trivial) oT;simp only[ke]at e;obtain⟨rfl,_,rfl⟩:=e;exact zT j (by have:=Eu g;omega) (λx f=>by have:=g x f;omega) od
def Wq{w:World}{g:Nat}{T:TypeId}{x0 l b c d e f i j k a:Value}(h:w.heap[g]?=some (.cells #[x0,l,b,c,d,e,f,i,j,k,a] T (0,0)))(v:Value) :
 (w.setCell ⟨g,1,none⟩ v).heap[g]?=some (.cells #[x0,v,b,c,d,e,f,i,j,k,a] T (0,0))/\(w.setCell ⟨g,10,none⟩ v).heap[g]?=some (.cells #[x0,l,b,c,d,e,f,i,j,k,v] T (0,0)):=by
 simp[World.setCell,yr,h]
def Ny{W wc c:World}{O d:Nat->Prop}(h:W.grownBy wc none)(hF:dB O wc d c)(f:∀b,O b->W.heap.size<=b):W.grownBy c none :=
 ⟨hF.os.trans h.os,hF.tape.trans h.tape,hF.output.trans h.output,kh h.size hF.size,λb a g=>(hF.block b (jz a h.size) (λe=>by have:=f b e;omega)).trans (h.block b a g)⟩
def WW{c f:Int}{w:World}{b:Nat}{T:TypeId}{k n a:Int}{s:ByteArray}{d:Option Addr}{al ac:Nat}{ta:Option Addr}{tl tc:Nat}{na:Option Addr}{e nc:Nat}{j g:Value}(h:w.heap[b]?=some (.cells (yG en aC c f k n a s d al ac ta tl tc na e nc j g) T)) :
 w.cell? ⟨b,7,none⟩=some (.i k)/\w.cell? ⟨b,8,none⟩=some (.i n)/\w.cell? ⟨b,9,none⟩=some (.i a)/\w.cell? ⟨b,10,none⟩=some (.string s)/\w.cell? ⟨b,11,none⟩=some (.slice d al ac)/\w.cell? ⟨b,12,none⟩=some (.slice ta tl tc)/\w.cell? ⟨b,13,none⟩=some (.slice na e nc):=by
 simp[World.cell?,h,yG]
def XD{w:World}{g:Nat}{T:TypeId}{x0 k m n o p q r s l a:Value}(h:w.heap[g]?=some (.cells #[x0,k,m,n,o,p,q,r,s,l,a] T (0,0)))(b c d e f i j:Value) :
 (((((((w.setCell ⟨g,2,none⟩ b).setCell ⟨g,3,none⟩ c).setCell ⟨g,4,none⟩ d).setCell ⟨g,5,none⟩ e).setCell ⟨g,6,none⟩ f).setCell ⟨g,7,none⟩ i).setCell ⟨g,8,none⟩ j).heap[g]?=some (.cells #[x0,k,b,c,d,e,f,i,j,l,a] T (0,0)) /\
 w.grownBy (((((((w.setCell ⟨g,2,none⟩ b).setCell ⟨g,3,none⟩ c).setCell ⟨g,4,none⟩ d).setCell ⟨g,5,none⟩ e).setCell ⟨g,6,none⟩ f).setCell ⟨g,7,none⟩ i).setCell ⟨g,8,none⟩ j) (some g):=by
 refine⟨by simp[World.setCell,yr,h],?_⟩;exact dY (dY (dY (dY (dY (dY (dY (bM _ _) _ _ _) _ _ _) _ _ _) _ _ _) _ _ _) _ _ _) _ _ _
def RA{z:List Ty}{N:Nat}{VR:Nat->Value}(bl:Ah en=true)(ck:yH en)(bk:cK ok W az na VR)(cn:az.length<=nc)(hZ:z.length<=342)(cl:aC<=50000)(hw:WT aC z (jO l az))(hD:Done aC z (fq en aC N (jO l az)))(hN:∀X,W.grownBy X none->Calls prog 27 #[af nk nn np nz na az.length nc,.slice sa s.length sc,.slice la l.length lc] X λe w'=>e =.returned (.bool true)/\X.grownBy w' none)
 (hT:∀X,W.grownBy X none->∀O:Nat->Prop,(∀b,O b->W.heap.size<=b)->Calls prog 28 #[.slice la l.length lc] X (IV O X l.reverse)) (hgas:bD aC):Calls prog 10 #[.agg #[.i en.self,.i en.sender,.i en.amount,.i en.balance],af nk nn np nz na az.length nc,.slice sa s.length sc,.slice la l.length lc,.i aC] W (PN W (rsO (fq en aC N (jO l az)))):=by
 have HS:=jh (DD en);rw[bl]at HS;obtain⟨HN,HT,bx,cc⟩:=JT hN hT hgas bk;have ad:Hid (∀O5 w5 mb,dm W.heap.size O5 w5 mb en aC (jO l az)->Calls prog 30 #[.pointer (some ⟨mb,0,none⟩)] w5 (jK W.heap.size O5 w5 mb en aC (fq en aC N (jO l az)))):=λO5 w5 mb hM=>VF ck hw hZ cl hM N (uW hD);have HD:=jh hD;have cb:=jh cn;clear bl hN hT hgas bk hw hZ ck cl hD cn;unfold af at HN|-;generalize hQ:PN W (rsO (fq en aC N (jO l az)))=Q;have HQ:=jh hQ;clear hQ;have P:=jh (PS W (.cells #[.i en.self,.i en.sender,.i en.amount,.i en.balance] 23) (.cells #[.i nk,.i nn,.i np,.string nz,.slice na az.length nc] 26) (.cells #[.i 0,.n0,.i 0,.i 0,.i 0,.string ⟨#[]⟩,.n0,.n0,.n0,.i 0,.i 0] 38));go_enter func10,ntmps10
 go_upto_region 1 with (fail)
 generalize ((W.alloc _).alloc _).alloc _=W3 at *;have cf:W3.grownBy W3 none:=bM _ _;have K5:=λ(w':World) (h:W3.grownBy w' none)=>And.intro (WY (l5 P.2.1 h)) (bE (l5 P.2.2.1 h))
 go_upto_region 3 with (first
  | (go_at_call 26;(with_reducible refine (HS.out _).mono ?_);rintro e H ⟨rfl,ah⟩;have bp:=aJ cf ah;clear ah)
  | (go_at_call 27;(with_reducible refine (HN.out _ (aJ P.out.1 bp)).mono ?_);rintro e H ⟨rfl,ah⟩;have d:=aJ bp ah;clear ah))
 go_cut [11] (λpv wx=>∃mb O,pv =.pointer (some ⟨mb,0,none⟩)/\dm W.heap.size O wx mb en aC ⟨0,0,zeroVa,l,[]⟩/\H.grownBy wx none/\∀b,O b->H.heap.size<=b)
 case first =>
  have ch:W.heap.size<=H.heap.size:=kh P.out.1.size d.size;have hd:H.grownBy H.drew none:=fK (bM _ _);refine wR (cs:=[((4:Nat),λw:World=>W3.grownBy w none)]) 7 oA oA ?_;refine ry (i:=0) (k:=4) (some 25) (bL (.inr (fK d)) fP) (.head _) (Or.inl ⟨by rfl,λw hw=>by have hk:=K5 w hw;go_simp;with_reducible rfl⟩) ?_ (hi:=rfl);simp only[Act.put,kO,xF,zE];refine dN (i:=1) (some 26) (bL (.inr (fK d)) fP) ?_;simp only[Act.put,kO,xF,zE];refine dN (i:=2) (some 27) (bL (.inr (fK d)) fP) ?_;simp only[Act.put,kO,xF,zE];refine gU (rs:=[3,5]) oA rfl (iE.cons rfl (λK c=>?_) (iE.cons rfl (λK c=>?_) iE.nil))
  .go_simp;refine (HT H.drew (aJ (aJ P.1 d) hd) (H.heap.size <= ·) (λb S=>od)).mono ?_;rintro e X ⟨sv,us,rfl,J,hg⟩;obtain⟨T,U,rfl,cy⟩:=J.slice;rw[ue]at J;have cg:W3.grownBy X none:=aJ (aJ d hd) hg;have bt:(Value.slice T l.length U).ownBlock≠some X.heap.size:=λe=>by have:=(kp J.own _ e).2;omega
   have A:=qT X (.cells ma0 65);obtain⟨O,hM,j,hO⟩:=DW (en:=en) ch hd hg (aK _) (kh hd.size hg.size) A J bt bx;refine c _ _ (bL (.inr cg) fP) ?_;clear c K;refine gU (rs:=[4,5]) oA rfl (iE.cons rfl (λK c=>?_) (iE.cons rfl (λK c=>?_) iE.nil))
   .go_simp;refine c _ _ (bL (.inl rfl) fP) ?_;clear c K;refine gU (rs:=[5]) oA rfl (iE.cons rfl (λK c=>?_) iE.nil);go_simp;refine c _ _ (bL (.inl rfl) fP) ?_;clear c K;refine gU (rs:=[6]) oA rfl (iE.cons rfl (λK c=>?_) iE.nil);rw[if_pos (show Region.wanted _ _=true from rfl)];refine Fx 65 _ _ rfl rfl rfl A rfl oA oA ?_;refine c _ _ (bL (.inl rfl) fP) ?_;clear c K;refine uP oA ?_ _;go_wp2_with fail;go_meet;exact⟨_,O,rfl,hM,j,hO⟩
   .go_simp;refine c _ _ (bL (.inr (aJ cg (aK _))) fP) ?_;clear c K;refine gU (rs:=[4]) oA rfl (iE.cons rfl (λK c=>?_) iE.nil);go_simp;refine c _ _ (bL (.inl rfl) fP) ?_;clear c K;refine gU (rs:=[6]) oA rfl (iE.cons rfl (λK c=>?_) iE.nil);rw[if_pos (show Region.wanted _ _=true from rfl)];refine Fx 65 _ _ rfl rfl rfl A rfl oA oA ?_;refine c _ _ (bL (.inl rfl) fP) ?_;clear c K;refine uP oA ?_ _;go_wp2_with fail;go_meet;exact⟨_,O,rfl,hM,j,hO⟩
  .go_simp;refine c _ _ (bL (.inr (aJ (fK d) (aK _))) fP) ?_;clear c K;refine gU (rs:=[3]) oA rfl (iE.cons rfl (λK c=>?_) iE.nil);go_simp;have bq:H.grownBy (H.drew.alloc (.cells ma0 65)) none:=aJ hd (aK _);have cm:=qT H.drew (.cells ma0 65);refine (HT (H.drew.alloc (.cells ma0 65)) (aJ (aJ P.1 d) bq) (H.heap.size <= ·) (λb S=>od)).mono ?_;rintro e X ⟨sv,us,rfl,J,hg⟩;obtain⟨T,U,rfl,cy⟩:=J.slice;rw[ue]at J;have A:=l5 cm hg;have bt:(Value.slice T l.length U).ownBlock≠some H.drew.heap.size:=λe=>by have:=(kp J.own _ e).1;rw[yb]at this;omega
   obtain⟨O,hM,j,hO⟩:=DW (en:=en) ch bq hg (bM _ _) hd.size A J bt bx;refine c _ _ (bL (.inr (aJ (aJ d bq) hg)) fP) ?_;clear c K;refine gU (rs:=[4]) oA rfl (iE.cons rfl (λK c=>?_) iE.nil);go_simp;refine c _ _ (bL (.inl rfl) fP) ?_;clear c K;refine gU (rs:=[6]) oA rfl (iE.cons rfl (λK c=>?_) iE.nil);rw[if_pos (show Region.wanted _ _=true from rfl)];refine Fx 65 _ _ rfl rfl rfl A rfl oA oA ?_;refine c _ _ (bL (.inl rfl) fP) ?_;clear c K;refine uP oA ?_ _;go_wp2_with fail;go_meet;exact⟨_,O,rfl,hM,j,hO⟩
 case rest =>
  obtain⟨mb,O,rfl,hM,j,hO⟩:=hcut;have hk:=K5 wc (aJ d j);have bo:Hid (Calls prog 29 #[.pointer (some ⟨mb,0,none⟩),.agg #[.slice na az.length nc,.i 0,.n0,.n0]] wc (K8 W.heap.size O wc mb en aC (jO l az))):=Dp (f:=⟨az,0,[],[]⟩) (VW:=λ_=>.i 0) (VA:=λ_=>.i 0) hM (kB _) ⟨show (0:Int)≠67 by decide,I64_0⟩ ((cc.ae (ok':=λb=>¬O b) λb S _ h=>by have:=hO b h;have:=d.size;have:=P.out.1.size;omega).same (λb o _ G=>qn ((aJ (aJ P.1 d) j).block b G ot))) (cK.nil _ _ _ _) (aT.nil _ _ _ _) ⟨cb,qv _,qv _⟩
  have HO:=jh hO;have cr:Hid (W.grownBy wc none):=aJ (aJ P.1 d) j;have I:=jh (l5 P.2.2.2 (aJ d j));have ca:Hid (W.heap.size+1+1<H.heap.size):=jz (qq.1 P.2.2.2).1 d.size;have bm:Hid (∀O6 g wf,dB O wc O6 g->g.grownBy wf none->W.grownBy wf none/\wf.heap[W.heap.size+1+1]?=some (.cells rs0 38)):=λO6 g wf hF hg=>by refine⟨aJ (Ny cr hF λb S=>by have:=HO.out b S;have:=ca.out;omega) hg,l5 ((hF.block _ (qq.1 I).1 λh=>?_).trans I) hg⟩;have:=HO.out _ h;have:=ca.out;omega
  clear hM j hO K5 P HT HN HS cf bp d cc cb
  cases ho:fq en aC N (jO l az)with
  | stuck=>exact absurd ho (uW HD)
  | no er m =>
   rw[ho]at ad HD HQ;clear ho;have hE:=HD.out.2
   by_cases ay:er=10
   .subst ay;have hz:=(hE.resolve_right od).2.2
    go_upto_region 7 with (first
     | (go_at_call 29;(with_reducible refine bo.out.mono ?_);rintro e w5 ⟨rfl,O5,r,u⟩;have Y:=jh r;have ab:=jh u;clear r u)
     | (go_at_call 30;(with_reducible refine (ad.out _ _ _ ab.out).mono ?_);rintro e g ⟨O6,t,_,rfl,m',e1,e2,k,n,a,s',aa,al,ac,T,tl,U,B,nl,C,sv,fv,us,fs,R⟩;have z6:=iM R.blk;rw[e1]at z6;have HL:=Ca g #[.i 10,.n0,.i 0,.i 0,.i 0,.string ⟨#[]⟩,.n0,.n0,.n0,.i m.paid,.i 0];have D:=jh (Y.out.trans t);have H6:=jh R;have cd:=jh R.said;rw[e2]at cd;clear t R e1 e2)
     | (refine sH rfl 38 _ _ rfl rfl rfl (qT _ _) rfl oA oA ?_))
    simp only[rs0]at HL;generalize World.setRow _ _ _=M at *;have z7:=zN HL.2;have z8:=WW (l5 H6.blk HL.1);have A:=qT M (.cells #[.i k,.i n,.i a,.string s',.slice aa al ac,.slice T tl U,.slice B nl C] 36);have cv:Hid (Calls prog 31 #[.slice (some ⟨M.heap.size,0,none⟩) 1 1] (M.alloc (.cells #[.i k,.i n,.i a,.string s',.slice aa al ac,.slice T tl U,.slice B nl C] 36)) (Tu (M.alloc (.cells #[.i k,.i n,.i a,.string s',.slice aa al ac,.slice T tl U,.slice B nl C] 36)) [m.said])):=by
     have hL:=((cd.ae (ok':=λ_=>True) λ_ _ _=>trivial).same (ni (aJ HL.1 (aK (.cells #[.i k,.i n,.i a,.string s',.slice aa al ac,.slice T tl U,.slice B nl C] 36)))));refine zT (V:=λ_=>bg k n a s' aa al ac T tl U B nl C) (a:=some ⟨M.heap.size,0,none⟩) (l:=[m.said]) (ok:=λ_=>True) ⟨by unfold maxLen;simp,λi hi=>?_,λi hi=>?_⟩ (by simp[vsizes];omega) (λx hx=>by simp at hx;subst hx;omega) ot
     .obtain rfl:i=0:=by simpa using hi
      exact⟨_,_,rfl,trivial,k,n,a,s',aa,al,ac,T,tl,U,B,nl,C,rfl,ot⟩
     .obtain rfl:i=0:=by simpa using hi
      exact hL
    have E:=jh HL;clear HL z6 hk hE A;simp only[Act.put]
    go_upto_region 12 with ((go_at_call 31;(refine cv.mono ?_);rintro e w9 ⟨a3,c3,V3,rfl,aE,L,ai⟩;obtain⟨b,o,rfl,S,k2,n2,a2,s2,ar,ax,au,bh,sM,bj,bc,bf,bd,hv,cj⟩:=L.2.1 0 ot;have bb:=L.2.2 0 ot;rw[hv]at bb;simp only[qh0,qc0,qh2,yW]at cj bb aE;have aj:=aJ (aK _) ai;have F:=l5 E.2 aj;have z9:=zN F;have aq:=jh (XD F (.i k2) (.i n2) (.i a2) (.string s2) (.slice ar ax au) (.slice bh sM bj) (.slice bc bf bd));have cu:=jh bb;have ct:=jh aj;clear L ai bb aj F))
    generalize World.setCell _ _ _=wf at *;have cA:=zN aq.1;have ao:g.grownBy wf none:=aG (aJ E.1 ct) aq.2 (qv _);obtain⟨q,y⟩:=bm.out _ _ _ D ao;have Z:Hid (Q (.returned (.agg #[.i 10,.n0,.i k2,.i n2,.i a2,.string s2,.slice ar ax au,.slice bh sM bj,.slice bc bf bd,.i m.paid,.i 0])) (wf.setRow (W.heap.size+1+1) #[.i 10,.n0,.i k2,.i n2,.i a2,.string s2,.slice ar ax au,.slice bh sM bj,.slice bc bf bd,.i m.paid,.i 0])):=by
     rw[<-HQ.out];have cx:W.heap.size+1+1<g.heap.size/\g.heap.size<M.heap.size:=⟨jz (qq.1 I).1 D.size,(qq.1 E.2).1⟩;refine⟨_,rfl,⟨none,0,λ_=>.i 0,k2,n2,a2,s2,ar,ax,au,bh,sM,bj,bc,bf,bd,rfl,qv _,aT.nil _ _ _ _,?_⟩,aG q (mQ _ _ _) od⟩;refine (cu.same (λb o S G=>?_)).ae (λb _ S=>?_)
     .rw[yb]at S;exact qn (((mQ _ _ _).block b (jz G aq.2.size) (λe=>by cases e;omega)).trans (aq.2.block b G (λe=>by cases e;omega)))
     .rw[yb]at S;omega
    clear z9 z7 z8 cj q hz S aE;go_wp2_with (refine sH rfl 38 _ _ rfl rfl rfl y rfl oA oA ?_);exact zv (results_cell_row results10 _ _ (W.heap.size+1+1) _ _ _ _ rfl (nZ y) underlying38 rfl oA) rfl Z
   .have b0:(er==0)=false:=by simp;omega
    have cC:(er==10)=false:=by simpa using ay
    go_upto_region 7 with (first
     | (go_at_call 29;(with_reducible refine bo.out.mono ?_);rintro e w5 ⟨rfl,O5,r,u⟩;have Y:=jh r;have ab:=jh u;clear r u)
     | (go_at_call 30;(with_reducible refine (ad.out _ _ _ ab.out).mono ?_);rintro e g ⟨O6,t,_,rfl,m',e1,e2,k,n,a,s',aa,al,ac,T,tl,U,B,nl,C,sv,fv,us,fs,R⟩;have z6:=iM R.blk;rw[e1]at z6;have HL:=Ca g #[.i er,.n0,.i 0,.i 0,.i 0,.string ⟨#[]⟩,.n0,.n0,.n0,.i m.paid,.i 0];have D:=jh (Y.out.trans t);have H6:=jh R;clear t R e1)
     | (refine sH rfl 38 _ _ rfl rfl rfl (qT _ _) rfl oA oA ?_))
    simp only[rs0]at HL;generalize World.setRow _ _ _=M at *;have z7:=zN HL.2;obtain⟨q,y⟩:=bm.out _ _ _ D HL.1;have Z:Hid (Q (.returned (.agg #[.i er,.n0,.i 0,.i 0,.i 0,.string ⟨#[]⟩,.n0,.n0,.n0,.i m.paid,.i 0])) (M.setRow (W.heap.size+1+1) #[.i er,.n0,.i 0,.i 0,.i 0,.string ⟨#[]⟩,.n0,.n0,.n0,.i m.paid,.i 0])):=by rw[<-HQ.out];refine⟨_,rfl,?_,aG q (mQ _ _ _) od⟩;rw[show rsO (.no er m)=⟨er,[],zeroVa,m.paid,0⟩ by simp only[rsO,if_neg ay]];exact Wp _ _
    clear HL z6 hk q hE ay;simp only[Act.put];go_wp2_with (refine sH rfl 38 _ _ rfl rfl rfl y rfl oA oA ?_);exact zv (results_cell_row results10 _ _ (W.heap.size+1+1) _ _ _ _ rfl (nZ y) underlying38 rfl oA) rfl Z
  | go m =>
   rw[ho]at ad HD;rw[ho]at HQ;clear ho
   go_upto_region 7 with (first
    | (go_at_call 29;(with_reducible refine bo.out.mono ?_);rintro e w5 ⟨rfl,O5,r,u⟩;have Y:=jh r;have ab:=jh u;clear r u)
    | (go_at_call 30;(with_reducible refine (ad.out _ _ _ ab.out).mono ?_);rintro e g ⟨O6,t,rfl,k,n,a,s',aa,al,ac,T,tl,U,B,nl,C,sv,fv,us,fs,R⟩;have z6:=iM R.blk;have HL:=Ca g #[.i 0,.n0,.i 0,.i 0,.i 0,.string ⟨#[]⟩,.n0,.n0,.n0,.i m.paid,.i 0];have D:=jh (Y.out.trans t);have H6:=jh R;clear t R)
    | (refine sH rfl 38 _ _ rfl rfl rfl (qT _ _) rfl oA oA ?_))
   simp only[rs0]at HL;generalize World.setRow _ _ _=M at *;have z7:=zN HL.2;have E:=jh HL;clear HL z6 hk;simp only[Act.put]
   go_upto_region 9 with (fail)
   have p:g.grownBy M.drew none:=fK E.1;have cw:Hid (Calls prog 28 #[sv] M.drew (IV O6 M.drew m.st)):=by have h:=Cy (H6.grow p).jL.src (by have:=HD.out.2.2.2.2.2;simp;omega);rw[je2]at h;exact h
   refine wR (cs:=[((2:Nat),λw:World=>g.grownBy w none),((9:Nat),λw:World=>g.grownBy w none)]) 10 oA oA ?_;refine dN (i:=0) (some 43) (bL (.inr p) (bL (.inr p) fP)) ?_;simp only[Act.put,kO,xF,zE];refine ry (i:=1) (k:=2) (some 44) (bL (.inr p) (bL (.inr p) fP)) (.head _) (Or.inl ⟨by rfl,λw hw=>by have hk:=iM (l5 H6.out.blk hw);go_simp;with_reducible rfl⟩) ?_ (hi:=rfl);simp only[Act.put,kO,xF,zE];refine dN (i:=4) (some 47) (bL (.inr p) (bL (.inr p) fP)) ?_;simp only[Act.put,kO,xF,zE];refine ry (i:=5) (k:=9) (some 48) (bL (.inr p) (bL (.inr p) fP)) (.tail _ (.head _)) (Or.inl ⟨by rfl,λw hw=>by have hk:=iM (l5 H6.out.blk hw);go_simp;with_reducible rfl⟩) ?_ (hi:=rfl);simp only[Act.put,kO,xF,zE];refine gU (rs:=[2]) oA rfl (iE.cons rfl (λK c=>?_) iE.nil);go_simp;refine cw.out.mono ?_;rintro e w8 ⟨v,cE,rfl,J,ba⟩;obtain⟨a2,c2,rfl,cD⟩:=J.slice;have cq:g.grownBy w8 none:=aJ p ba;refine c.out _ _ (bL (.inl rfl) (bL (.inr cq) fP)) ?_;clear c K;refine gU (rs:=[3]) oA rfl (iE.cons rfl (λK c=>?_) iE.nil);go_simp;refine (Xz J ba HD.out.2.2.2.2.1 HD.out.2.2.2.2.2).mono ?_;rintro e w9 ⟨a3,c3,V3,rfl,aE,L,ai⟩;have bw:g.grownBy w9 none:=aJ cq ai;refine c.out _ _ (bL (.inl rfl) (bL (.inr bw) fP)) ?_;clear c K;have F:=l5 E.out.2 (aJ (fK (bM M none)) (aJ ba ai));have z9:=zN F;have br:=(Wq F (.slice a3 m.st.length c3)).1;have cz:=zN br;have cp:=(Wq br (.i m.aO)).2;refine dN (i:=6) (some 49) (bL (.inl rfl) (bL (.inr bw) fP)) ?_;simp only[Act.put,kO,xF,zE];have an:g.grownBy (w9.setCell ⟨g.heap.size,1,none⟩ (.slice a3 m.st.length c3)) none:=aG bw (dY (bM _ _) _ _ _) (qv _);refine gU (rs:=[7]) oA rfl (iE.cons rfl (λK c=>?_) iE.nil);go_simp;refine c.out _ _ (bL (.inl rfl) (bL (.inr an) fP)) ?_;clear c K;refine dN (i:=8) (some 50) (bL (.inl rfl) (bL (.inr an) fP)) ?_;simp only[Act.put,kO,xF,zE];refine gU (rs:=[9]) oA rfl (iE.cons rfl (λK c=>?_) iE.nil);go_simp;refine c.out _ _ (bL (.inl rfl) (bL (.inl rfl) fP)) ?_;clear c K;have ao:g.grownBy ((w9.setCell ⟨g.heap.size,1,none⟩ (.slice a3 m.st.length c3)).setCell ⟨g.heap.size,10,none⟩ (.i m.aO)) none:=aG an (dY (bM _ _) _ _ _) (qv _);refine uP oA ?_ _;have cA:=zN cp;clear z7 z9 cz br F;obtain⟨q,y⟩:=bm.out _ _ _ D.out ao;have Z:Hid (Q (.returned (.agg #[.i 0,.slice a3 m.st.length c3,.i 0,.i 0,.i 0,.string ⟨#[]⟩,.n0,.n0,.n0,.i m.paid,.i m.aO])) (((w9.setCell ⟨g.heap.size,1,none⟩ (.slice a3 m.st.length c3)).setCell ⟨g.heap.size,10,none⟩ (.i m.aO)).setRow (W.heap.size+1+1) #[.i 0,.slice a3 m.st.length c3,.i 0,.i 0,.i 0,.string ⟨#[]⟩,.n0,.n0,.n0,.i m.paid,.i m.aO])):=by
    rw[<-HQ.out];have cx:W.heap.size+1+1<g.heap.size/\g.heap.size<w8.heap.size:=⟨jz (qq.1 I).1 D.size,jz (qq.1 E.2).1 ba.size⟩;refine⟨_,rfl,⟨a3,c3,V3,_,_,_,_,_,_,_,_,_,_,_,_,_,rfl,aE,?_,rV _ _⟩,aG q (mQ _ _ _) od⟩;refine (L.same (λb o S G=>?_)).ae (λb _ S=>?_)
    .exact qn (((mQ _ _ _).block b (by simpa using G) (λe=>by cases e;omega)).trans ((dY (dY (bM w9 (some g.heap.size)) _ _ _) _ _ _).block b G (λe=>by cases e;omega)))
    .have:=q.size;omega
   clear L J q;go_wp2_with (refine sH rfl 38 _ _ rfl rfl rfl y rfl oA oA ?_);exact zv (results_cell_row results10 _ _ (W.heap.size+1+1) _ _ _ _ rfl (nZ y) underlying38 rfl oA) rfl Z
def Vb{b:Bool}(d:Ah en=b)(hN:b=true->∀j,W.grownBy j none->Calls prog 27 #[af nk nn np nz na az.length nc,.slice sa s.length sc,.slice la l.length lc] j λe w'=>e =.returned (.bool false)/\j.grownBy w' none) :
 Calls prog 10 #[.agg #[.i en.self,.i en.sender,.i en.amount,.i en.balance],af nk nn np nz na az.length nc,.slice sa s.length sc,.slice la l.length lc,.i aC] W (PN W (rsO .stuck)):=by
 have o:=jh (DD en);rw[d]at o;have g:=jh hN;clear d hN;unfold af at g|-;generalize p:PN W (rsO .stuck)=Q;have q:=jh p;clear p;have f:=jh (PS W (.cells #[.i en.self,.i en.sender,.i en.amount,.i en.balance] 23) (.cells #[.i nk,.i nn,.i np,.string nz,.slice na az.length nc] 26) (.cells rs0 38));have k:Hid (∀w',W.grownBy w' none->Q (.returned (.agg #[.i 14,.n0,.i 0,.i 0,.i 0,.string ⟨#[]⟩,.n0,.n0,.n0,.i 0,.i 0])) (w'.setRow (W.heap.size+1+1) #[.i 14,.n0,.i 0,.i 0,.i 0,.string ⟨#[]⟩,.n0,.n0,.n0,.i 0,.i 0])):=λw' r=>by rw[<-q.out];exact⟨_,rfl,Wp _ _,aG r (mQ _ _ _) od⟩
 cases b
 all_goals
  try replace g:=jh (g rfl)
  go_enter func10,ntmps10
  go_upto_region 1 with (fail)
  simp only[rs0]at f;generalize ((W.alloc _).alloc _).alloc _=m at *;have n:m.grownBy m none:=bM _ _;have t:=λ(w':World) (h:m.grownBy w' none)=>And.intro (WY (l5 f.2.1 h)) (bE (l5 f.2.2.1 h));go_wp2_with (first
   | (go_at_call 26;(with_reducible refine (o.out _).mono ?_);rintro e u ⟨rfl,c⟩;have a:=aJ n c;clear c)
   | (go_at_call 27;(with_reducible refine (g.out _ (aJ f.out.1 a)).mono ?_);rintro e j ⟨rfl,c⟩;replace a:=aJ a c;clear c)
   | (refine sH rfl 38 _ _ rfl rfl rfl (l5 f.2.2.2 a) rfl oA oA ?_))
  exact zv (results_cell_row results10 _ _ (W.heap.size+1+1) _ _ _ _ rfl (nZ (l5 f.2.2.2 a)) underlying38 rfl oA) rfl (k _ (aJ f.1 a))
end
open Pe
def Xc (en:En):A1:=.agg [.d (.v (.i en.self)),.d (.v (.i en.sender)),.d (.v (.i en.amount)),.d (.v (.i en.balance))]
def YW (r:Rs):A1:=.agg [.d (.v (.i r.code)),.d (.s 7 (vasD r.stack)),.d (.v (.i r.said.k)),.d (.v (.i r.said.n)),.d (.v (.i r.said.a)),.d (.v (.string r.said.s)),.d (.s 7 (vasD r.said.args)),.d (.s 2 (tysD r.said.types)),.d (.s 5 (ndsD r.said.code)),.d (.v (.i r.aC)),.d (.v (.i r.aO))]
def TZ{ok:Nat->Prop}{w:World}{en:En}{v:Value}(h:gm (λ_=>none) ok w (Xc en) v):v =.agg #[.i en.self,.i en.sender,.i en.amount,.i en.balance]:=by
 obtain⟨k,rfl,h⟩:=h
 match k,h with
 | [a,b,c,d],⟨e,f,g,j,_⟩ =>
  rw[bW e,bW f,bW g,bW j]
def XC{ok:Nat->Prop}{w:World}{r:Rs}{v:Value}(h:WQ ok w r v):iZ (λ_=>none) ok w (.of (YW r)) v:=by obtain⟨sa,sc,V,k,n,a,s,y,al,z,B,tl,C,na,A,nc,rfl,l,j,i⟩:=h;obtain⟨b,c,u,x,m,o,e,p,q,t⟩:=y9 i;simp only[bg,qb3,qc1,xj,qg5,jf6,true_and,and_true]at e;obtain⟨rfl,rfl,rfl,rfl,d,f,g⟩:=e;rw[d,f,g];exact⟨_,rfl,.v _,yu j l,.v _,.v _,.v _,.v _,p,q,t,.v _,.v _,trivial⟩
def VK{en:En}{n:Tr}{s:List Ty}{l:List Va}{aC:Int}(L:okN n)(P:n.size<=4611686018427387904)(Y:okTs s)(X:okVs l)(h6:l.length<=10000000)(hz:∀x∈l,x.size<=6000000)(z:bD aC)(I:aC<=50000) :
 Hd ⟨10,[Xc en,ndA n,dZ s,qi l,iA aC],.of (YW (Fy en n s l aC))⟩:=⟨bK func10,λok w vs h=>by
 match vs,h with
 | [ev,nv,sv,Z,gv],⟨he,C,D,A,J,_⟩ =>
  have hM:=(Pn L P Y X hz (λe h=>EO h)).runN rfl;have d:∀g,w.grownBy g none->Calls prog 27 #[nv,sv,Z] g λe p=>e =.returned (.bool (rW n s l))/\g.grownBy p none:=λg q=>by have k:zH ok w ok g:=⟨q.size,λb F h=>⟨h,λo=>qn (q.block b F ot)⟩⟩;refine (hM ok g [nv,sv,Z] ⟨C.keep k (λ_ _ h=>h),D.keep k (λ_ _ h=>h),A.keep k (λ_ _ h=>h),trivial⟩).mono ?_;rintro e p ⟨z,v,rfl,hv⟩;exact⟨by rw[bW hv],z⟩
  obtain rfl:=TZ he;obtain rfl:gv =.i aC:=bW J;have hL:=oK L C;obtain⟨_,nk,nn,np,nz,na,nc,t,rfl,j⟩:=qL hL;obtain⟨sa,sc,VS,rfl,ah,ab⟩:=jR Y (.inl rfl) D;obtain⟨la,lc,VL,rfl,ad,H⟩:=lV X (.inl rfl) A;obtain⟨Q,n1,R,S,az⟩:=n;simp only[Tr.args0,Tr.nd.injEq,and_true]at t j d|-;obtain⟨rfl,rfl,rfl,rfl⟩:=t;have fin:∀(r:Rs) (e:Ending) (p:World),PN w r e p->w.grownBy p none/\∃v,e =.returned v/\iZ (λ_=>none) (λb=>ok b\/w.heap.size<=b) p (.of (YW r)) v:=λr e p ⟨v,e1,hr,z⟩=>by obtain⟨sa,sc,V,k,n,a,s,aa,al,ac,ta,tl,tc,na,nl,nc,e2,u,hV,hS⟩:=hr;exact⟨z,v,e1,XC ⟨sa,sc,V,k,n,a,s,aa,al,ac,ta,tl,tc,na,nl,nc,e2,u,hV.ae (λb _ h=>.inr h),hS.ae (λb _ h=>.inr h)⟩⟩
  by_cases G:Ah en=true/\rW (.nd Q n1 R S az) s l=true
  .unfold Fy;rw[if_pos G];obtain⟨m,B⟩:=G;obtain⟨⟨f,x,u⟩,W⟩:=zb.1 B;have y:=Md m;have hx:=uV u;have U:x.length<=342:=by omega
   have E:f=false->x=x:=λ_=>rfl;obtain⟨N,T⟩:=Cg (aC:=aC) y u E U W hz;rw[xA (uW T)];obtain⟨M,c⟩:az.length<=nc/\∃V,cK ok w az na V:=by obtain⟨_,h1,V,h2⟩:=rep_rowN _ (qv _) L.2 j;exact⟨h1,V,h2⟩
   obtain⟨VR,c⟩:=c;rw[B]at d;exact (RA m y c M U I (Gg u E W hz) T d (λg q O hO=>Cy (Src.row ((H.ae (ok':=λb=>¬O b) λb F _ h=>by have:=hO b h;omega).same (λb o _ K=>qn (q.block b K ot)))) od) z).mono (fin _)
  .unfold Fy;rw[if_neg G];refine (Vb (b:=Ah en) (s:=s) (l:=l) (az:=az) rfl (λF g q=>?_)).mono (fin _);have:=d g q;rw[show rW (.nd Q n1 R S az) s l=false by cases h:rW (.nd Q n1 R S az) s l with|false=>rfl|true=>exact absurd ⟨F,h⟩ G]at this;exact this⟩
open Pe (fI gm dU iZ A1 bW)
set_option maxHeartbeats 1000000
def KN{O:Nat->Prop}{W:World}{l:List Va}{xv:Value}(h:Src O W l xv)(r:l.length<=20000000):Calls prog 11 #[xv] W (IV O W l):=by obtain⟨n,g,a,j⟩:=h;have f:=lL (mO a j);rw[a]at f g;have c:Hid (nI O W W (.n0) [] []):=⟨qa2 _ _ _ _,rfl,λi x u h=>by simp at h⟩;have q:=jh g;have e:=jh j;clear g j;go_enter func11,ntmps11;go_wp2_with (at_builtin;refine ed rfl _ _ 28 rfl W.heap.size 36 underlying28 mr rfl ov _ ([]:List Value).length (flat []) rfl c.out.own _ l.length (flat n) rfl f.1 q.out f.2 Zs Up (qv _) ?_;intro o p m k _;have b:=jh (dX (bM W none) c.out.own (qv _) k.1);have d:=jh (c.out.more (v':=o) (w':=p) (l2:=l) (ns:=n) (by unfold dF;rw[bV,qS,a];exact m) a e.out);clear m k);go_ret;exact⟨_,_,rfl,by simpa using d.out,b.out⟩
def Pt{l:List Va}(hk:okVs l)(r:l.length<=20000000):Hd ⟨11,[qi l],.of (qi l)⟩:=⟨bK func11,λok w y h=>by
 match y,h with
 | [v],⟨f,_⟩ =>
  obtain⟨a,c,V,rfl,_,n⟩:=lV hk (.inl rfl) f;refine (KN (O:=λb=>¬ok b/\b<w.heap.size) (Src.row (n.ae λb _ f j=>j.1 f)) r).mono ?_;rintro e A ⟨v,z,rfl,d,m⟩;obtain⟨a,c,V,rfl,q,hR⟩:=uG (ok:=λb=>ok b\/w.heap.size<=b) d.own d.len (λi x u t s=>((d.lies i x u t s).ae (ok':=λb=>ok b\/w.heap.size<=b) λb p h=>.inl (qh5 λj=>h ⟨j,p⟩)).same (λb o _ k=>qn (m.block b k ot))) (λg e=>.inr (kp d.own g e).1) oT;exact⟨m,_,rfl,yu hR q⟩⟩
def OH{ok:Nat->Prop}{W:World}{l:List Ty}{a:Option Addr}{c:Nat}{V:Nat->Value}(h:dw ok W l a V)(t:l.length<=20000000):Calls prog 9 #[.slice a l.length c] W λe w'=>∃v us,e =.returned v/\vN ok W w' v l us/\W.grownBy w' none:=by obtain⟨us,o,n,r,s,p⟩:=h.Vf c;have d:Hid (vN ok W W (.n0) [] []):=⟨qa2 _ _ _ _,rfl,λi x u h=>by simp at h⟩;have q:=jh n;have g:=jh p;clear h n p;go_enter func9,ntmps9;go_wp2_with (at_builtin;refine ed rfl _ _ 27 rfl W.heap.size 54 underlying27 rO rfl ov _ ([]:List Value).length (bX []) rfl d.out.own _ l.length (bX us) rfl r q.out s Zs Up (qv _) ?_;intro m w' k j _;have b:=jh (dX (bM W none) d.out.own (qv _) j.1);have f:=jh (d.out.more (v':=m) (w':=w') (us:=l) (ns:=us) (by unfold wS;rw[dx,qS,o];exact k) o g.out);clear k j);go_ret;exact⟨_,_,rfl,by simpa using f.out,b.out⟩
def Tm{l:List Ty}(hk:okTs l)(i:l.length<=20000000):Hd ⟨9,[dZ l],.of (dZ l)⟩:=⟨bK func9,λok w j h=>by
 match j,h with
 | [v],⟨d,_⟩ =>
  obtain⟨a,c,V,rfl,_,g⟩:=jR hk (.inl rfl) d;refine (OH g i).mono ?_;rintro e m ⟨v,k,rfl,f,b⟩;exact⟨b,_,rfl,f.rep b oT⟩⟩
def qR (k:Int):Int:=if k.tmod 3000<0 then k.tmod 3000+3000 else k.tmod 3000
def Rh(k:Int):0<=qR k/\qR k<3000:=by have a:=Int.lt_tmod_of_pos k (b:=3000) ov;have c:=Int.tmod_lt_of_pos k (b:=3000) ov;unfold qR;split<;>omega
def Rj(k:Int)(hk:bD k)(w:World):Calls prog 32 #[.i k,.i 3000] w λe w'=>e =.returned (.i (qR k))/\w'=w:=by
 obtain⟨f,g⟩:=hk;have c:=Int.lt_tmod_of_pos k (b:=3000) ov;have d:k.tmod 3000<3000:=Int.tmod_lt_of_pos k ov;unfold qR
 by_cases a:k.tmod 3000<0
 .rw[if_pos a];go_enter func32,ntmps32;go_wp2_with fail;go_ret;exact⟨rfl,rfl⟩
 .rw[if_neg a];go_enter func32,ntmps32;go_wp2_with fail;go_ret;exact⟨rfl,rfl⟩
def WE{k:Int}(hk:bD k):Hd ⟨12,[iA k],.of (iA (qR k))⟩:=by
 have h:Hd ⟨32,[iA k,iA 3000],.of (iA (qR k))⟩:=⟨bK func32,λok w f h=>by
  match f,h with
  | [u,v],⟨c,d,_⟩ =>
   obtain rfl:u =.i k:=bW c;obtain rfl:v =.i 3000:=bW d;exact (Rj k hk w).mono λe g ⟨a,b⟩=>⟨b ▸ bM _ _,_,a,.v _⟩⟩
 exact aF func12 [⟨_,h⟩]
def vW (en:En) (s:List Ty) (l:List Va):Bool:=Ah en&&decide (s.length=l.length)&&fitsAll s l
section
variable (ok:Nat->Prop) (w:World)
def Ye:List D->List D->Prop
 | [],[]=>True
 | x::xs,y::ys=>(∀u,fI ok w x u->fI ok w y u)/\Ye xs ys
 | _,_=>False
end
def Ye.at{ok:Nat->Prop}{w:World} : ∀{r r':List D},Ye ok w r r'->r'.length=r.length/\∀(j:Nat) (c:D),r'[j]?=some c->∃x,r[j]?=some x/\∀u,fI ok w x u->fI ok w c u
 | [],[],_=>⟨rfl,λj x h=>by simp at h⟩
 | x::g,y::i,⟨e,f⟩=>by
  obtain⟨a,b⟩:=Ye.at f;refine⟨by simp[a],λj c d=>?_⟩
  cases j with
  | zero=>simp at d;subst d;exact⟨x,rfl,e⟩
  | succ j=>exact b j c (by simpa using d)
def Fu{ok:Nat->Prop}{w:World}{n:Nat}{r r':List D}{v:Value}(h:Ye ok w r r')(u:fI ok w (.s n [r]) v):fI ok w (.s n [r']) v:=by
 obtain⟨g,f⟩:=h.at
 cases u with
 | s U l m o k t hz =>
  have a:∀(i:Nat) (q:List D),[r'][i]?=some q->i=0/\q=r':=λi q e=>by
   cases i with
   | zero=>simp at e;exact⟨rfl,e.symm⟩
   | succ i=>simp at e
  refine fI.s (es:=[r']) U l m (λi q e=>?_) (λi q j x b c=>?_) (λi q j x b c=>?_) hz
  .obtain⟨rfl,rfl⟩:=a i q e;rw[g];exact o 0 r rfl
  .obtain⟨rfl,rfl⟩:=a i q b;obtain⟨y,d,_⟩:=f j x c;exact k 0 r j y rfl d
  .obtain⟨rfl,rfl⟩:=a i q b;obtain⟨y,d,p⟩:=f j x c;exact p _ (t 0 r j y rfl d)
def runsN:Tr:=.nd 3 0 0 ⟨#[]⟩ [.nd 2 0 40 ⟨#[]⟩ []]
def runs_eq:Fy ⟨0,0,0,0⟩ runsN [.nd 4 []] [.mk 4 3 0 ⟨#[]⟩ [] [] []] 9=⟨0,[],zeroVa,1,0⟩:=by unfold Fy;rw[if_pos ⟨ov,oA⟩,xA (N:=3) (by rw[show fq ⟨0,0,0,0⟩ 9 3 (jO [.mk 4 3 0 ⟨#[]⟩ [] [] []] runsN.args0) =.go ⟨1,0,zeroVa,[],[]⟩ by kernel_rfl];simp)];rw[show fq ⟨0,0,0,0⟩ 9 3 (jO [.mk 4 3 0 ⟨#[]⟩ [] [] []] runsN.args0) =.go ⟨1,0,zeroVa,[],[]⟩ by kernel_rfl];rfl
def dropD:List D:=[.v (.i 2),.v (.i 0),.v (.i 40),.v (.string ⟨#[]⟩),.s 0 []]
def H_seq1:Hd ⟨34,[.one (.d (.s 5 [dropD]))],.of (.agg [.d (.v (.i 3)),.d (.v (.i 0)),.d (.v (.i 0)),.d (.v (.string ⟨#[]⟩)),.d (.s 5 [dropD])])⟩:=aF func34 []
def H_run1:Hd ⟨10,[Xc ⟨0,0,0,0⟩,.agg [.d (.v (.i 3)),.d (.v (.i 0)),.d (.v (.i 0)),.d (.v (.string ⟨#[]⟩)),.d (.s 5 [dropD])],.one (.d (.s 2 [[.v (.i 4),.s 0 []]])),.one (.d (.s 7 [[.v (.i 4),.v (.i 3),.v (.i 0),.v (.string ⟨#[]⟩),.s 0 [],.s 0 [],.s 0 []]])),iA 9],.of (YW ⟨0,[],zeroVa,1,0⟩)⟩:=by
 have f:∀k:Int,-1000<=k->k<=1000->bD k:=λk g j=>⟨od,od⟩;have h:=VK (en:=⟨0,0,0,0⟩) (n:=runsN) (s:=[.nd 4 []]) (l:=[.mk 4 3 0 ⟨#[]⟩ [] [] []]) (aC:=9) ⟨⟨f _ ov ov,f _ ov ov,f _ ov ov,kB _⟩,⟨⟨f _ ov ov,f _ ov ov,f _ ov ov,kB _⟩,trivial⟩,trivial⟩ ov ⟨⟨f _ ov ov,trivial⟩,trivial⟩ ⟨⟨⟨f _ ov ov,f _ ov ov,f _ ov ov,kB _⟩,trivial,trivial,trivial⟩,trivial⟩ ov (λx m=>by simp at m;subst m;decide) (f _ ov ov) ov;rw[runs_eq]at h;refine h.conv (λok w D u=>?_) (λ_ _ _ h=>h)
 match D,u with
 | [a,b,c,d,e],⟨g,⟨bs,t,j⟩,o,p,q,_⟩ =>
  match bs,j with
  | [E,F,G,H,I],⟨y,z,A,B,C,_⟩ =>
   exact⟨g,⟨_,t,y,z,A,B,Fu (r:=dropD) (r':=[.v (.i 2),.v (.i 0),.v (.i 40),.v (.string ⟨#[]⟩),.s 5 []]) ⟨λ_ h=>h,λ_ h=>h,λ_ h=>h,λ_ h=>h,λ_ h=>gG h,trivial⟩ C,trivial⟩,Fu (r:=[.v (.i 4),.s 0 []]) (r':=[.v (.i 4),.s 2 []]) ⟨λ_ h=>h,λ_ h=>gG h,trivial⟩ o,Fu (r:=[.v (.i 4),.v (.i 3),.v (.i 0),.v (.string ⟨#[]⟩),.s 0 [],.s 0 [],.s 0 []]) (r':=[.v (.i 4),.v (.i 3),.v (.i 0),.v (.string ⟨#[]⟩),.s 7 [],.s 2 [],.s 5 []]) ⟨λ_ h=>h,λ_ h=>h,λ_ h=>h,λ_ h=>h,λ_ h=>gG h,λ_ h=>gG h,λ_ h=>gG h,trivial⟩ p,q,trivial⟩
def H_runs:Hd ⟨14,[],aQ true⟩:=aF func14 [⟨_,H_seq1⟩,⟨_,H_run1⟩]
def Qc{n:Tr}{s x:List Ty}{f:Bool}(h:codeF n s =.ok f x):okN n:=by
 unfold codeF at h;split at h
 .cases h
 .rename_i a;exact first_okN n 1 (iV (by simpa using a)).1
def fit_ok:∀(N:Nat) {T:Ty}{v:Va},v.size<=N->Fit T v->okV v:=λN=>by
 induction N with
 | zero=>intro T v B;have:=eP v;omega
 | succ N C =>
  intro T v B h;obtain⟨z,o,⟨D,w,A⟩,p,e⟩:=iO h;have m:=oM z;have d:∀x∈v.args,okV x:=λx i=>by obtain⟨U,_,r⟩:=fitS_mem A x i;exact C (by have:=IK i;have:=fO i;have:=eP v;omega) r
  obtain⟨k,n,a,s,args,types,code⟩:=v;simp only[eX,qu,qc7,ki]at o;obtain⟨⟨⟨⟨⟨g,f⟩,l⟩,q⟩,b⟩,c⟩:=o;simp only[Va.k,Va.n,Va.a,Va.s,Va.types,Va.code,Va.args]at g f l q b c d e w;obtain⟨t,j⟩:=T;simp only[Ty.t,Ty.args]at *;refine⟨⟨g ▸ m.1,?_,?_,?_⟩,okVs_at.2 d,?_,?_⟩
  .unfold bQ kE gN lY at f;unfold bD
   repeat' split at f
   all_goals simp at f;omega
  .simp only[lY,ki]at l;unfold bD;omega
  .unfold maxLen;omega
  .unfold eZ at b;split at b
   .match types,b with
    | [u],b=>exact⟨oM b,trivial⟩
   .split at b
    .rw[sameTs_eq _ _ b];exact m.2
    .have : types=[]:=ju (by simpa using b);rw[this];trivial
  .rcases c with c|c
   .rw[ju c];trivial
   .have d:=e (g.trans c);unfold jG at d;split at d
    .cases d
    .rename_i y;exact (Qc y).2
def T9{s:List Ty}{l:List Va}(h:FitS s l):okVs l:=okVs_at.2 λx b=>by obtain⟨T,_,a⟩:=fitS_mem h x b;exact fit_ok _ (qv _) a
section
variable {en:En}{n:Tr}{s x:List Ty}{l:List Va}{f:Bool}{g aC:Int}
def fitsK_iff:vW en s l=true ↔ Ah en=true/\FitS s l:=by
 simp only[vW,qu,ki];constructor
 .rintro⟨⟨b,a⟩,c⟩;exact⟨b,(fitsAll_iff a).1 c⟩
 .rintro⟨b,a⟩;exact⟨⟨b,fitS_len a⟩,(fitsAll_iff (fitS_len a)).2 a⟩
def Rz(i:codeF n s =.ok f x)(t:vW en s l=true)(p:Sm l):∃N o,fq en g N (jO l n.args0)=o/\Fy en n s l g=rsO o/\Done g x o/\(f=true->∀m,o ≠ .go m):=by
 obtain⟨a,hF⟩:=fitsK_iff.1 t;have c:=Md a;have u:=uV i;obtain⟨N,b⟩:=Cg (aC:=g) (z:=x) c i (λ_=>rfl) od hF p;refine⟨N,_,rfl,?_,b,λd m e=>?_⟩
 .unfold Fy;rw[if_pos ⟨a,zb.2 ⟨⟨f,x,i⟩,hF⟩⟩,xA (uW b)]
 .obtain⟨M,j⟩:=Cg (aC:=g) (z:=[.nd 1 []]) c i (λh=>by rw[d]at h;cases h) ov hF p;have q:fq en g N (jO l n.args0)=fq en g M (jO l n.args0):=(xA (uW b)).symm.trans (xA (uW j));rw[<-q,e]at j;rw[e]at b;have r:=fitS_len j.1;have k:=fitS_len b.1;rw[u.2.2 d]at k;simp at r k;omega
def run_stuck(h:(∃e,codeF n s =.no e)\/vW en s l=false):Fy en n s l g=⟨14,[],zeroVa,0,0⟩:=by
 unfold Fy;rw[if_neg ?_]
 .rfl
 .rintro⟨b,c⟩;obtain⟨⟨f,x,a⟩,hF⟩:=zb.1 c;rcases h with⟨e,d⟩|h
  .rw[d]at a;cases a
  .rw[fitsK_iff.2 ⟨b,hF⟩]at h;cases h
end
def Xd(ok:Nat->Prop)(w:World)(en:En):gm (λ_=>none) ok w (Xc en) (.agg #[.i en.self,.i en.sender,.i en.amount,.i en.balance]):=⟨[.i en.self,.i en.sender,.i en.amount,.i en.balance],rfl,.v _,.v _,.v _,.v _,trivial⟩
def tlength_le:∀l:List Ty,l.length<=tysizes l
 | []=>kB _
 | T::l=>by have:=tlength_le l;obtain⟨t,a⟩:=T;simp only[jn,tysizes,Ty.size];omega
def paidO:Out->Int
 | .stuck=>0
 | .no _ m=>m.paid
 | .go m=>m.paid
def KP (p:Int) (sd:Va) (F:List Fr):Out->Prop
 | .stuck=>True
 | .no _ m=>m.paid=p
 | .go m=>m.paid=p/\m.said=sd/\(m.fr=F\/∃g,m.fr=g::F)
section
variable {p mi:Int}{sd:Va}{st:List Va}{F:List Fr}
def Z5(l:List Va):KP p sd F (bz ⟨p,mi,sd,st,F⟩ l):=by
 unfold bz
 repeat' split
 all_goals first|exact trivial|exact rfl|exact⟨rfl,rfl,.inl rfl⟩
def ZW(g:Fr)(l:List Va):KP p sd F (bz ⟨p,mi,sd,st,g::F⟩ l):=by
 unfold bz
 repeat' split
 all_goals first|exact trivial|exact rfl|exact⟨rfl,rfl,.inr ⟨_,rfl⟩⟩
def kp_go:KP p sd F (.go ⟨p,mi,sd,st,F⟩):=⟨rfl,rfl,.inl rfl⟩
def ZZ(g:Fr):KP p sd F (.go ⟨p,mi,sd,st,g::F⟩):=⟨rfl,rfl,.inr ⟨_,rfl⟩⟩
def Z7(e:Int){a:Va}{b:List Fr} : KP p sd F (.no e ⟨p,mi,a,st,b⟩):=rfl
def kp_stuck:KP p sd F .stuck:=trivial
def Z4{c:Prop}[Decidable c]{a b:Out}(h:KP p sd F a)(k:KP p sd F b):KP p sd F (if c then a else b):=by split<;>assumption
end
def Z0(en:En)(n:Tr)(m:Ma):KP m.paid m.said m.fr (Qy en n m):=by
 obtain⟨p,mi,sd,st,a⟩:=m;unfold Qy;dsimp only
 repeat' (with_reducible first|apply Z4|exact kp_stuck|exact Z5 _|exact kp_go|exact Z7 _|exact ZW _ _|exact ZZ _|split|(first|unfold p9|unfold l8|unfold il|unfold gJ|unfold mq|unfold gL|unfold xm|unfold jQ|unfold iB|unfold mf|unfold jP|unfold oV|unfold Gu);try dsimp only)
def ZP(en:En)(g:Int)(m:Ma):uB en g m =.stuck\/m.paid<=paidO (uB en g m):=by
 have d:∀(b:Ma) (k:Ma->Out),(∀a,k a =.stuck\/a.paid<=paidO (k a))->uH g b k =.stuck\/b.paid<=paidO (uH g b k):=λb k h=>by
  unfold uH;split
  .exact .inr (jf5 _)
  .rcases h { b with paid:=b.paid+1 } with h|h
   .exact .inl h
   .right;simp only at h;omega
 have f:∀(n:Tr) (a:Ma),Qy en n a =.stuck\/a.paid<=paidO (Qy en n a):=λn a=>by
  have h:=Z0 en n a
  cases e:Qy en n a with
  | stuck=>exact .inl rfl
  | no c i=>rw[e]at h;right;simp only[KP,paidO]at h|-;omega
  | go i=>rw[e]at h;right;have h:=h.1;simp only[paidO];omega
 unfold uB Bz Iq
 repeat' split
 all_goals first
  | exact .inl rfl
  | exact .inr (jf5 _)
  | exact d _ _ (λa=>.inr (jf5 _))
  | exact d _ _ (f _)
def ZO(en:En){g b:Int}(d:g<=b)(m:Ma):uB en g m=uB en b m\/∃m',uB en g m =.no 12 m'/\m'.paid=m.paid:=by
 have c:∀(a:Ma) (k:Ma->Out),uH g a k=uH b a k\/∃m',uH g a k =.no 12 m'/\m'.paid=a.paid:=λa k=>by
  unfold uH
  by_cases h:g<=a.paid
  .rw[if_pos h];exact .inr ⟨_,rfl,rfl⟩
  .rw[if_neg h,oa];exact .inl rfl
 unfold uB Bz Iq
 repeat' split
 all_goals first
  | exact .inl rfl
  | exact c _ _
def Tg(en:En)(g:Int):∀(N:Nat) (m:Ma),fq en g N m ≠ .stuck->m.paid<=paidO (fq en g N m)
 | 0,m,h=>absurd rfl h
 | N+1,m,h=>by
  rw[fq]at h|-;split
  .exact jf5 _
  .rename_i f i d;rw[d]at h;simp only at h;have a:=ZP en g m
   cases e:uB en g m with
   | stuck=>rw[e]at h;exact absurd rfl h
   | no c b=>rw[e]at a;simpa using a
   | go b =>
    rw[e]at h a;have:=Tg en g N b h;rcases a with a|a
    .cases a
    .exact Int.le_trans a this
def JY(en:En){g b:Int}(l:g<=b):∀(N:Nat) (m:Ma),fq en g N m ≠ .stuck->fq en b N m=fq en g N m\/∃m',fq en g N m =.no 12 m'/\∀a,fq en b a m ≠ .stuck->m'.paid<=paidO (fq en b a m)
 | 0,m,h=>absurd rfl h
 | N+1,m,h=>by
  cases i:m.fr with
  | nil=>left;simp only[fq,i]
  | cons f r =>
   simp only[fq,i]at h|-;rcases ZO en l m with e|⟨m',e,o⟩
   .rw[<-e]
    cases j:uB en g m with
    | stuck=>exact .inl rfl
    | no c n=>exact .inl rfl
    | go n =>
     rw[j]at h;rcases JY en l N n h with k|⟨m',p,q⟩
     .exact .inl k
     .refine .inr ⟨m',p,λa d=>?_⟩
      cases a with
      | zero=>exact absurd rfl d
      | succ a =>
       simp only[fq,i,<-e,j]at d|-;exact q a d
   .rw[e];exact .inr ⟨m',rfl,λa d=>by rw[o];exact Tg en b a m d⟩
section
variable {en:En}{n:Tr}{s:List Ty}{l:List Va}{g g':Int}
def ZR(o:Out):(rsO o).aC=paidO o:=by cases o<;>rfl
def ZV(en:En)(n:Tr)(s:List Ty)(i:Sm l):(∀g,Fy en n s l g=⟨14,[],zeroVa,0,0⟩)\/∃x:List Ty,∀g,∃N,Fy en n s l g=rsO (fq en g N (jO l n.args0))/\Done g x (fq en g N (jO l n.args0)):=by
 by_cases a:∃f x,codeF n s =.ok f x
 .obtain⟨f,x,a⟩:=a
  cases b:vW en s l with
  | false=>exact .inl λg=>run_stuck (.inr b)
  | true =>
   refine .inr ⟨x,λg=>?_⟩;obtain⟨N,o,rfl,d,h,_⟩:=Rz (g:=g) a b i;exact⟨N,d,h⟩
 .refine .inl λg=>run_stuck (.inl ?_)
  cases e:codeF n s with
  | no c=>exact⟨c,rfl⟩
  | ok f x=>exact absurd ⟨f,x,e⟩ a
def Pg{x:List Ty}{o:Out}(h:Done g x o):0<=paidO o/\(paidO o=0\/paidO o<=g):=by
 cases o with
 | stuck=>exact h.elim
 | no e m=>exact h.1
 | go m=>exact⟨h.2.2.1,h.2.2.2.1⟩
def ZU(z:Sm l)(y:g<=g'):(Fy en n s l g).code=12/\(Fy en n s l g).aC<=(Fy en n s l g').aC\/(Fy en n s l g).code≠12/\Fy en n s l g'=Fy en n s l g /\
 0<=(Fy en n s l g).aC/\((Fy en n s l g).aC=0\/(Fy en n s l g).aC<=g/\(Fy en n s l ((Fy en n s l g).aC - 1)).code=12):=by
 rcases ZV en n s z with h|⟨x,h⟩
 .rw[h,h];exact .inr ⟨ov,rfl,ov,.inl rfl⟩
 .obtain⟨N,e,m⟩:=h g;obtain⟨c,p,f⟩:=h g';have b:=uW m;have a:=uW f;have j:=Pg m;rw[e,p,ZR,ZR];rcases JY en y N _ b with k|⟨C,A,B⟩
  .by_cases o:(rsO (fq en g N (jO l n.args0))).code=12
   .left;refine⟨o,?_⟩;have : fq en g' c (jO l n.args0)=fq en g' N (jO l n.args0):=(xA a).symm.trans (xA (by rw[k];exact b));rw[this,k];exact jf5 _
   .right;have u:fq en g' c (jO l n.args0)=fq en g N (jO l n.args0):=((xA a).symm.trans (xA (by rw[k];exact b))).trans k;refine⟨o,by rw[u],j.1,?_⟩;rcases j.2 with d|d
    .exact .inl d
    .by_cases t:paidO (fq en g N (jO l n.args0))=0
     .exact .inl t
     .refine .inr ⟨d,?_⟩;obtain⟨M,r,i⟩:=h (paidO (fq en g N (jO l n.args0)) - 1);rw[r];rcases JY en (show paidO (fq en g N (jO l n.args0)) - 1<=g by omega) M _ (uW i)with q|⟨C,q,_⟩
      .exfalso;have v:fq en g M (jO l n.args0)=fq en g N (jO l n.args0):=(xA (by rw[q];exact uW i)).symm.trans (xA b);have w:=Pg i;rw[<-q,v]at w;omega
      .rw[q];rfl
  .left;rw[A]at j|-;exact⟨rfl,B c a⟩
end
mutual
def sameN_self:∀t:Tr,Ot uK t t=0
 | .nd k n p s a=>by
  have h:uK (.nd k n p s a) (.nd k n p s a)=0:=by simp[uK]
  rw[Ot,if_neg (by rw[h];simp)];exact sameNs_self a
def sameNs_self:∀l:List Tr,jk uK l l=0
 | []=>by simp[jk]
 | t::l=>by rw[jk,if_neg (by rw[sameN_self t];simp)];exact sameNs_self l
end
mutual
def sameV_self0:∀x:Va,qg uL x x=0
 | .mk k n a s az b c=>by
  have h:uL (.mk k n a s az b c) (.mk k n a s az b c)=0:=by simp[uL,sameTs_refl,sameNs_self]
  rw[qg,if_neg (by rw[h];simp)];exact sameVs_self0 az
def sameVs_self0:∀l:List Va,eO uL l l=0
 | []=>by simp[eO]
 | x::l=>by rw[eO,if_neg (by rw[sameV_self0 x];simp)];exact sameVs_self0 l
end
def Nt(x:Va):Ij x x=true:=by unfold Ij;rw[sameV_self0];rfl
def Z8 (l:List Va) (j:Nat):St:=[((0,0),.of (qi l)),((0,1),.of (qi l)),((0,12),lW (vasD l).length),((0,13),.of (jA j))]
def ZX{l:List Va}(r:okVs l)(w:l.length<=100000)(hz:Sm l):∀(k j:Nat),j+k=l.length->vO prog f15.ntmps ⟨gF f15,Z8 l j,2,[]⟩:=λk=>by
 induction k with
 | zero =>
  intro j q;exact xQ (e:=1) [(14,bA false)] [] (ob:=[mD (aQ (decide (Int.ofNat j<((vasD l).length:Int)))) (bA false)]) (al (wH vl) al0)
 | succ k v =>
  intro j q;have c:j<l.length:=od
  have t:=is_lt (a:=Int.ofNat j) (b:=((vasD l).length:Int)) vl;have p:=PT (qt c);have u:mD (lW (IntKind.i64.wrap (Int.ofNat j+1))) (jA (j+1)):=yY (zF ot oB oB);have o:=okVs_at.1 r _ (zj c);have hF:=Te o o (by have:=hz _ (zj c);omega);rw[Nt]at hF;have s:=v (j+1) od;generalize l[j]=x at *;obtain⟨g,h,f,n,i,m,d⟩:=x;exact LG [(14,bA true),(18,.one (.e (vaD (.mk g h f n i m d)) 0)),(22,.one (.e (vaD (.mk g h f n i m d)) 0)),(26,jA (j+1))] [⟨_,hF⟩] s (ob:=[mD (aQ (decide (Int.ofNat j<((vasD l).length:Int)))) (bA true),XT l j (.mk g h f n i m d),XT l j (.mk g h f n i m d),mD (lW (IntKind.i64.wrap (Int.ofNat j+1))) (jA (j+1))]) (al t (al p (al p (al u al0))))
def ZQ{l:List Va}(d:okVs l)(b:l.length<=100000)(e:Sm l):Hd ⟨15,[qi l,qi l],aQ true⟩:=by have c:=ZX d b e l.length 0 od;exact Ce func15 [(10,fA)] [⟨gF f15,Z8 l 0,2,[]⟩] (by intro x a;rw[yq]at a;subst a;exact c) [] (wI (S:=Z8 l 0) (q:=gF f15=gF f15) rfl (ps:=[jJ (!decide (((vasD l).length:Int)=((vasD l).length:Int))) false]) (al (eT ot) al0))
section
variable {en:En}{n:Tr}{s:List Ty}{l:List Va}{g aC more:Int}
def ZT(q:Sm l):okV (Fy en n s l g).said/\(Fy en n s l g).said.size<=6000000/\okVs (Fy en n s l g).stack/\(Fy en n s l g).stack.length<=342/\Sm (Fy en n s l g).stack:=by
 have b:okV zeroVa/\zeroVa.size<=6000000:=by simp[zeroVa,okV,okVs,okTs,okNs,bD,Va.size,vsizes,tysizes,sizes,ByteArray.size,maxLen]
 have f:okVs []/\([]:List Va).length<=342/\Sm []:=⟨trivial,ot,λx h=>by simp at h⟩;rcases ZV en n s q with h|⟨x,h⟩
 .rw[h];exact⟨b.1,b.2,f⟩
 .obtain⟨N,e,a⟩:=h g;rw[e]
  cases d:fq en g N (jO l n.args0)with
  | stuck=>rw[d]at a;exact a.elim
  | go m =>
   rw[d]at a;obtain⟨i,_,_,_,j,k⟩:=a;exact⟨b.1,b.2,T9 i,k,j⟩
  | no c m =>
   rw[d]at a;refine⟨?_,?_,f⟩<;>simp only[rsO]<;>split
   .rename_i p;rcases a.2 with⟨_,_,_,T,o⟩|h|h|h
    .exact fit_ok _ (qv _) o
    all_goals omega
   .exact b.1
   .rename_i p;rcases a.2 with⟨_,_,h,_⟩|h|h|h
    .exact h
    all_goals omega
   .exact b.2
def ZY(T:okN n)(E:n.size<=4611686018427387904)(L:okTs s)(U:s.length<=10000000)(K:okVs l)(Q:l.length<=10000000)(D:Sm l)(R:bD aC)(S:bD more):Hd ⟨4,[Xc en,ndA n,dZ s,qi l,iA aC,iA more],aQ true⟩:=by
 have a:=Tm L od;have d:=Pt K od;have e:=WE R;have w:=WE S;have hp:=Rh aC;have hq:=Rh more;have y:=λg (h:0<=g/\g<=6000)=>VK (en:=en) (aC:=g) T E L K Q D ⟨od,od⟩ od;have u:=y _ (show 0<=qR aC/\qR aC<=6000 by omega);have k:=y _ (show 0<=qR aC+qR more/\qR aC+qR more<=6000 by omega);have C:=H_runs;have F:mD (lW (IntKind.i64.wrap (qR aC+qR more))) (iA (qR aC+qR more)):=yY (zF rfl od od);have i:=ZT (en:=en) (n:=n) (s:=s) (g:=qR aC) D;have I:=ZU (en:=en) (n:=n) (s:=s) D (show qR aC<=qR aC+qR more by omega);obtain⟨nk,nn,np,nz,na⟩:=n;generalize qR aC=g at *;generalize qR more=j at *;rcases I with⟨r,G⟩|⟨r,G,V,H⟩
 .generalize Fy en (.nd nk nn np nz na) s l g=A at *;generalize Fy en (.nd nk nn np nz na) s l (g+j)=B at *;obtain⟨c,st,sd,p,mi⟩:=A;obtain⟨c2,st2,aa,p2,X⟩:=B;obtain rfl:c=12:=r;have o:=eT (b:=decide (p<=p2)) (v:=true) (by simpa using G);exact runT func4 [(34,iA (g+j)),(47,bA true)] [⟨_,a⟩,⟨_,d⟩,⟨_,e⟩,⟨_,u⟩,⟨_,a⟩,⟨_,d⟩,⟨_,e⟩,⟨_,w⟩,⟨_,k⟩,⟨_,C⟩] (al F (al o al0))
 .rw[G]at k;have m:=λh=>y ((Fy en (.nd nk nn np nz na) s l g).aC - 1) h;obtain⟨J,f2,O,f4,P⟩:=i;have z:=ZQ O od P;have q:=Te J J od;rw[Nt]at q;generalize Fy en (.nd nk nn np nz na) s l g=A at *;obtain⟨c,st,sd,p,mi⟩:=A;simp only at r V H m z q;have M:=eT (b:=decide (c=12)) (v:=false) (by simpa using r);have f:∀x:Int,jJ (!decide (x=x)) false:=λx=>eT ot
  by_cases t:p=0
  .subst t;exact runT func4 [(34,iA (g+j)),(38,fA),(55,fA),(61,fA),(76,fA)] [⟨_,a⟩,⟨_,d⟩,⟨_,e⟩,⟨_,u⟩,⟨_,a⟩,⟨_,d⟩,⟨_,e⟩,⟨_,w⟩,⟨_,k⟩,⟨_,C⟩,⟨_,z⟩,⟨_,q⟩] (al F (al M (al (f c) (al (f 0) (al (f mi) al0)))))
  .obtain⟨H,W⟩:=H.resolve_left t;have m:=m od;have Z:mD (lW (IntKind.i64.wrap (p - 1))) (iA (p - 1)):=yY (zF rfl od od);have o4:=eT (b:=decide (p=0)) (v:=false) (by simpa using t);generalize Fy en (.nd nk nn np nz na) s l (p - 1)=B at *;obtain⟨N,ad,ab,p3,Y⟩:=B;obtain rfl:N=12:=W;exact runT func4 [(34,iA (g+j)),(38,fA),(55,fA),(61,fA),(76,fA),(88,fA),(98,iA (p - 1))] [⟨_,a⟩,⟨_,d⟩,⟨_,e⟩,⟨_,u⟩,⟨_,a⟩,⟨_,d⟩,⟨_,e⟩,⟨_,w⟩,⟨_,k⟩,⟨_,C⟩,⟨_,z⟩,⟨_,q⟩,⟨_,a⟩,⟨_,d⟩,⟨_,m⟩] (al F (al M (al (f c) (al (f p) (al (f mi) (al o4 (al Z al0)))))))
end
