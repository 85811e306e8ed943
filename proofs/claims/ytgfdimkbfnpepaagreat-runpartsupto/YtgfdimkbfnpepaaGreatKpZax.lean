import Derived.Test.YtgfdimkbfnpepaaGreatKpZaw
namespace Go.Proofs.YtgfdimkbfnpepaaGreat
set_option linter.all false
open Go.Proofs.Tryz
set_option maxRecDepth 100000
set_option maxHeartbeats 4000000
open Go.ChangeShapes Go.WideShapes Go.ChangeAt Go.RowKit
def WQ (ok:Nat->Prop) (w:World) (r:Rs) (v:Value):Prop:=∃sa sc V k n a s aa al ac ta tl tc na nl nc,v =.agg #[.i r.code,.slice sa r.stack.length sc,.i k,.i n,.i a,.string s,.slice aa al ac,.slice ta tl tc,.slice na nl nc,.i r.aC,.i r.aO]/\r.stack.length<=sc/\aT ok w r.stack sa V/\aA ok w r.said (bg k n a s aa al ac ta tl tc na nl nc)
def PN (W:World) (r:Rs) (e:Ending) (w':World):Prop:=∃v,e =.returned v/\WQ (W.heap.size <= ·) w' r v/\W.grownBy w' none
def Wp{ok:Nat->Prop}{w:World}(e p:Int):WQ ok w ⟨e,[],zeroVa,p,0⟩ (.agg #[.i e,.n0,.i 0,.i 0,.i 0,.string ⟨#[]⟩,.n0,.n0,.n0,.i p,.i 0]) :=
 ⟨none,0,λ_=>.i 0,_,_,_,_,_,_,_,_,_,_,_,_,_,rfl,qv _,aT.nil _ _ _ _,rV _ _⟩
def I64_0:bD 0:=⟨ov,ov⟩
section
variable {ok:Nat->Prop}{W:World}{en:En}{nk nn np:Int}{nz:ByteArray}{az:List Tr}{na sa la:Option Addr}{nc sc lc:Nat}{s:List Ty}{l:List Va}{aC:Int}
abbrev ma0:Array Value:=#[.i 0,.i 0,.i 0,.i 0,.i 0,.i 0,.i 0,.i 0,.i 0,.i 0,.string ⟨#[]⟩,.n0,.n0,.n0,.n0,.n0]
def JP{B mb:Nat}{m w:World}{f:Value}{us:List Value}{q:Nat->Prop}(v:B<=mb)(k:w.heap[mb]?=some (.cells (yG en aC 0 0 0 0 0 ⟨#[]⟩ none 0 0 none 0 0 none 0 0 f (.n0)) 65))(s:B<=m.heap.size)
 (d:nI q m w f l.reverse us) (hg:∀b o,b<m.heap.size->b≠mb->w.cell? ⟨b,o,none⟩=m.cell? ⟨b,o,none⟩) (hO:∀b,¬q b->b≠mb) (hgas:bD aC) :
 dm B (λb=>b=mb\/f.ownBlock=some b) w mb en aC ⟨0,0,zeroVa,l,[]⟩:=by
 refine⟨_,_,_,_,_,_,_,_,_,_,_,_,_,f,_,us,[],k,rV _ _,⟨?_,d.len,λi x u z y=>?_,λg e=>.inr e⟩,qa2 _ _ _ _,trivial,?_,⟨.inl rfl,λg e=>by cases e⟩,?_,?_,I64_0,I64_0,hgas⟩
 .obtain⟨n,a⟩:=d.own;exact⟨n,a.imp id λ⟨g,c,j,e,t,r⟩=>⟨g,c,j,e,kh s t,r⟩⟩
 .have n:=(d.lies i x u z y).ae (ok':=λb=>¬(b=mb\/f.ownBlock=some b)/\b≠mb) λb k h=>⟨λa=>by
   rcases a with a|a
   .exact hO b h a
   .have:=(kp d.own b a).1;omega,hO b h⟩
  exact (n.same λb o k p=>hg b o p k.2).ae λb _ h=>h.1
 .cases f.ownBlock<;>simp[keptBs]
 .rintro b (rfl|e)
  .exact v
  .exact kh s (kp d.own b e).1
 .rintro b (rfl|e)
  .exact⟨_,_,k⟩
  .rcases d.own.2 with⟨rfl,_⟩|⟨g,c,j,rfl,_,h,_⟩
   .cases e
   .simp only[Value.ownBlock,qk]at e;subst e;exact⟨_,_,h⟩
def Fx{o:Oper}{a:Act}{w:World}{K:Act->World->Prop}{Q:Exit->Act->World->Prop}{b:Nat}{cs z:Array Value}{t:TypeId}(T:TypeId)(x y:Operand)(e:o.op =.store T x y)(f:a.eval x =.pointer (some ⟨b,0,none⟩))(g:a.eval y =.agg cs)(d:w.heap[b]?=some (.cells z t (0,0)))(i:z.size=cs.size)(hi:(prog.info? T).map (·.size)=some cs.size)(c:cs.all (·.oneCell')=true)
 (h:K (a.put o.dst undef) (w.setRow b cs)):o.wp prog a w K Q:=wp_store_row T x y e b cs f g t z d hi i c h
def nZ{w:World}{b:Nat}{z cs:Array Value}{t:TypeId}(a:w.heap[b]?=some (.cells z t (0,0))):(w.setRow b cs).heap[b]?=some (.cells cs t (0,0)):=by simp[World.setRow,yr,a]
def mQ(w:World)(b:Nat)(cs:Array Value):w.grownBy (w.setRow b cs) (some b) :=
 ⟨rfl,rfl,rfl,by simp[World.setRow],λk c a=>by simp[World.setRow,yr];intro e;exact absurd (by rw[e]) a⟩
def DW{B a:Nat}{d n w i:World}{z:Array Value}{c:Value}{us:List Value}(x:B<=d.heap.size)(p:d.grownBy n none)(q:n.grownBy w none)(j:w.grownBy i none)(s:d.heap.size<=a)(A:i.heap[a]?=some (.cells z 65 (0,0)))(f:nI (d.heap.size <= ·) n w c l.reverse us)(v:c.ownBlock≠some a)(k:bD aC) :
 ∃O,dm B O (i.setRow a (yG en aC 0 0 0 0 0 ⟨#[]⟩ none 0 0 none 0 0 none 0 0 c (.n0))) a en aC ⟨0,0,zeroVa,l,[]⟩/\d.grownBy (i.setRow a (yG en aC 0 0 0 0 0 ⟨#[]⟩ none 0 0 none 0 0 none 0 0 c (.n0))) none/\∀b,O b->d.heap.size<=b:=by
 have u:=mQ i a (yG en aC 0 0 0 0 0 ⟨#[]⟩ none 0 0 none 0 0 none 0 0 c (.n0));have r:nI (d.heap.size <= ·) n (i.setRow a (yG en aC 0 0 0 0 0 ⟨#[]⟩ none 0 0 none 0 0 none 0 0 c (.n0))) c l.reverse us:=⟨iT f.own λg e=>(u.block g (jz (kp f.own g e).2 j.size) (λy=>v (e.trans y))).trans (j.block g (kp f.own g e).2 ot),f.len,f.lies⟩;refine⟨_,JP (kh x s) (nZ A) (kh x p.size) r (λb o m t=>?_) (λb h e=>h od) k,aG (aJ (aJ p q) j) u s,?_⟩
 .exact qn ((u.block b (jz m (aJ q j).size) (λe=>by cases e;exact t rfl)).trans ((aJ q j).block b m ot))
 .rintro b (rfl|e)
  .exact s
  .exact kh p.size (kp f.own b e).1
def PS(w:World)(x y z:Obj):w.grownBy (((w.alloc x).alloc y).alloc z) none/\(((w.alloc x).alloc y).alloc z).heap[w.heap.size]?=some x/\(((w.alloc x).alloc y).alloc z).heap[w.heap.size+1]?=some y/\(((w.alloc x).alloc y).alloc z).heap[w.heap.size+1+1]?=some z:=by
 refine⟨aJ (aJ (aK _) (aK _)) (aK _),l5 (CJ _ _ _) (aK _),?_,?_⟩
 .have h:=CJ (w.alloc x) y z;rw[yb]at h;exact h
 .have h:=qT ((w.alloc x).alloc y) z;rw[yb,yb]at h;exact h
def sH{o:Oper}{a:Act}{w:World}{Q:Exit->Act->World->Prop}{b:Nat}{cs z:Array Value}{t:TypeId}{d:Array Oper}{c:List Oper}(e:o.guard=none)(T:TypeId)(x y:Operand)(j:o.op =.store T x y)(k:a.eval x =.pointer (some ⟨b,0,none⟩))(l:a.eval y =.agg cs)(i:w.heap[b]?=some (.cells z t (0,0)))(m:z.size=cs.size)(hi:(prog.info? T).map (·.size)=some cs.size)(f:cs.all (·.oneCell')=true)
 (h:wpList prog d Q c (a.put o.dst undef) (w.setRow b cs)):wpList prog d Q (o::c) a w:=wpList_plain e λ_ g=>Fx T x y j k l i m hi f (g _ _ h)
abbrev rs0:Array Value:=#[.i 0,.n0,.i 0,.i 0,.i 0,.string ⟨#[]⟩,.n0,.n0,.n0,.i 0,.i 0]
def Ca(w:World)(cs:Array Value):w.grownBy ((w.alloc (.cells rs0 38)).setRow w.heap.size cs) none/\((w.alloc (.cells rs0 38)).setRow w.heap.size cs).heap[w.heap.size]?=some (.cells cs 38) :=
 ⟨aG (aK _) (mQ _ _ _) (qv _),nZ (qT _ _)⟩
def zN{w:World}{g:Nat}{T:TypeId}{x0 b c d e f i j k l a:Value}(h:w.heap[g]?=some (.cells #[x0,b,c,d,e,f,i,j,k,l,a] T (0,0))) :
 w.cell? ⟨g,0,none⟩=some x0/\w.cell? ⟨g,1,none⟩=some b/\w.cell? ⟨g,2,none⟩=some c/\w.cell? ⟨g,3,none⟩=some d/\w.cell? ⟨g,4,none⟩=some e/\w.cell? ⟨g,5,none⟩=some f/\w.cell? ⟨g,6,none⟩=some i/\w.cell? ⟨g,7,none⟩=some j/\w.cell? ⟨g,8,none⟩=some k/\w.cell? ⟨g,9,none⟩=some l/\w.cell? ⟨g,10,none⟩=some a/\∀o,w.frozen? ⟨g,o,none⟩=false:=by
 simp[World.cell?,World.frozen?,h]
def Eu{k:Nat} : ∀{l:List Va},(∀x∈l,x.size<=k)->vsizes l<=l.length*k
 | [],_=>by simp[vsizes]
 | x::l,h=>by have b:=h x ot;have c:=Eu (l:=l) λy a=>h y (by simp[a]);simp only[vsizes,jn,jb0];omega
def Xz{O:Nat->Prop}{h b:World}{a:Option Addr}{c:Nat}{st:List Va}{us:List Value}(d:nI O h b (.slice a st.length c) st us)(k:h.grownBy b none)(g:Sm st)(o:st.length<=342):Calls prog 31 #[.slice a st.length c] b (Tu b st):=by obtain⟨m,n,V,e,_,j⟩:=uG (ok:=λ_=>True) d.own d.len (λi x u f l=>((d.lies i x u f l).ae λ_ _ _=>trivial).same (ni k)) (λ_ _=>trivial) oT;simp only[ke]at e;obtain⟨rfl,_,rfl⟩:=e;exact zT j (by have:=Eu g;omega) (λx f=>by have:=g x f;omega) od
def Wq{w:World}{g:Nat}{T:TypeId}{x0 l b c d e f i j k a:Value}(h:w.heap[g]?=some (.cells #[x0,l,b,c,d,e,f,i,j,k,a] T (0,0)))(v:Value) :
 (w.setCell ⟨g,1,none⟩ v).heap[g]?=some (.cells #[x0,v,b,c,d,e,f,i,j,k,a] T (0,0))/\(w.setCell ⟨g,10,none⟩ v).heap[g]?=some (.cells #[x0,l,b,c,d,e,f,i,j,k,v] T (0,0)):=by
 simp[World.setCell,yr,h]
def Ny{W wc c:World}{O d:Nat->Prop}(h:W.grownBy wc none)(hF:dB O wc d c)(f:∀b,O b->W.heap.size<=b):W.grownBy c none :=
 ⟨hF.os.trans h.os,hF.tape.trans h.tape,hF.output.trans h.output,kh h.size hF.size,λb a g=>(hF.block b (jz a h.size) (λe=>by have:=f b e;omega)).trans (h.block b a g)⟩
def WW{c f:Int}{w:World}{b:Nat}{T:TypeId}{k n a:Int}{s:ByteArray}{d:Option Addr}{al ac:Nat}{ta:Option Addr}{tl tc:Nat}{na:Option Addr}{e nc:Nat}{j g:Value}(h:w.heap[b]?=some (.cells (yG en aC c f k n a s d al ac ta tl tc na e nc j g) T)) :
 w.cell? ⟨b,7,none⟩=some (.i k)/\w.cell? ⟨b,8,none⟩=some (.i n)/\w.cell? ⟨b,9,none⟩=some (.i a)/\w.cell? ⟨b,10,none⟩=some (.string s)/\w.cell? ⟨b,11,none⟩=some (.slice d al ac)/\w.cell? ⟨b,12,none⟩=some (.slice ta tl tc)/\w.cell? ⟨b,13,none⟩=some (.slice na e nc):=by
 simp[World.cell?,h,yG]
def XD{w:World}{g:Nat}{T:TypeId}{x0 k m n o p q r s l a:Value}(h:w.heap[g]?=some (.cells #[x0,k,m,n,o,p,q,r,s,l,a] T (0,0)))(b c d e f i j:Value) :
 (((((((w.setCell ⟨g,2,none⟩ b).setCell ⟨g,3,none⟩ c).setCell ⟨g,4,none⟩ d).setCell ⟨g,5,none⟩ e).setCell ⟨g,6,none⟩ f).setCell ⟨g,7,none⟩ i).setCell ⟨g,8,none⟩ j).heap[g]?=some (.cells #[x0,k,b,c,d,e,f,i,j,l,a] T (0,0)) /\
 w.grownBy (((((((w.setCell ⟨g,2,none⟩ b).setCell ⟨g,3,none⟩ c).setCell ⟨g,4,none⟩ d).setCell ⟨g,5,none⟩ e).setCell ⟨g,6,none⟩ f).setCell ⟨g,7,none⟩ i).setCell ⟨g,8,none⟩ j) (some g):=by
 refine⟨by simp[World.setCell,yr,h],?_⟩;exact dY (dY (dY (dY (dY (dY (dY (bM _ _) _ _ _) _ _ _) _ _ _) _ _ _) _ _ _) _ _ _) _ _ _
def RA{z:List Ty}{N:Nat}{VR:Nat->Value}(bk:Ah en=true)(cg:yH en)(bj:cK ok W az na VR)(ck:az.length<=nc)(hZ:z.length<=342)(ch:aC<=50000)(hw:WT aC z (jO l az))(hD:Done aC z (fq en aC N (jO l az)))(hN:∀X,W.grownBy X none->Calls prog 27 #[af nk nn np nz na az.length nc,.slice sa s.length sc,.slice la l.length lc] X λe w'=>e =.returned (.bool true)/\X.grownBy w' none)
 (hT:∀X,W.grownBy X none->∀O:Nat->Prop,(∀b,O b->W.heap.size<=b)->Calls prog 28 #[.slice la l.length lc] X (IV O X l.reverse)) (hgas:bD aC):Calls prog 10 #[.agg #[.i en.self,.i en.sender,.i en.amount,.i en.balance],af nk nn np nz na az.length nc,.slice sa s.length sc,.slice la l.length lc,.i aC] W (PN W (rsO (fq en aC N (jO l az)))):=by
 have HS:=jh (DD en);rw[bk]at HS;obtain⟨HN,HT,bt,bz⟩:=JT hN hT hgas bj;have ad:Hid (∀O5 w5 mb,dm W.heap.size O5 w5 mb en aC (jO l az)->Calls prog 30 #[.pointer (some ⟨mb,0,none⟩)] w5 (jK W.heap.size O5 w5 mb en aC (fq en aC N (jO l az)))):=λO5 w5 mb hM=>VF cg hw hZ ch hM N (uW hD);have HD:=jh hD;have bx:=jh ck;clear bk hN hT hgas bj hw hZ cg ch hD ck;unfold af at HN|-;generalize hQ:PN W (rsO (fq en aC N (jO l az)))=Q;have HQ:=jh hQ;clear hQ;have P:=jh (PS W (.cells #[.i en.self,.i en.sender,.i en.amount,.i en.balance] 23) (.cells #[.i nk,.i nn,.i np,.string nz,.slice na az.length nc] 26) (.cells #[.i 0,.n0,.i 0,.i 0,.i 0,.string ⟨#[]⟩,.n0,.n0,.n0,.i 0,.i 0] 38));go_enter func10,ntmps10
 go_upto_region 1 with (fail)
 generalize ((W.alloc _).alloc _).alloc _=W3 at *;have cb:W3.grownBy W3 none:=bM _ _;have K5:=λ(w':World) (h:W3.grownBy w' none)=>And.intro (WY (l5 P.2.1 h)) (bE (l5 P.2.2.1 h))
 go_upto_region 3 with (first
  | (go_at_call 26;(with_reducible refine (HS.out _).mono ?_);rintro e H ⟨rfl,ah⟩;have bn:=aJ cb ah;clear ah)
  | (go_at_call 27;(with_reducible refine (HN.out _ (aJ P.out.1 bn)).mono ?_);rintro e H ⟨rfl,ah⟩;have d:=aJ bn ah;clear ah))
 go_cut [11] (λpv wx=>∃mb O,pv =.pointer (some ⟨mb,0,none⟩)/\dm W.heap.size O wx mb en aC ⟨0,0,zeroVa,l,[]⟩/\H.grownBy wx none/\∀b,O b->H.heap.size<=b)
 case first =>
  have cd:W.heap.size<=H.heap.size:=kh P.out.1.size d.size;have hd:H.grownBy H.drew none:=fK (bM _ _);refine wR (cs:=[((4:Nat),λw:World=>W3.grownBy w none)]) 7 oA oA ?_;refine ry (i:=0) (k:=4) (some 25) (bL (.inr (fK d)) fP) (.head _) (Or.inl ⟨by rfl,λw hw=>by have hk:=K5 w hw;go_simp;with_reducible rfl⟩) ?_ (hi:=rfl);simp only[Act.put,kO,xF,zE];refine dN (i:=1) (some 26) (bL (.inr (fK d)) fP) ?_;simp only[Act.put,kO,xF,zE];refine dN (i:=2) (some 27) (bL (.inr (fK d)) fP) ?_;simp only[Act.put,kO,xF,zE];refine gU (rs:=[3,5]) oA rfl (iE.cons rfl (λK c=>?_) (iE.cons rfl (λK c=>?_) iE.nil))
  .go_simp;refine (HT H.drew (aJ (aJ P.1 d) hd) (H.heap.size <= ·) (λb S=>od)).mono ?_;rintro e X ⟨sv,us,rfl,J,hg⟩;obtain⟨T,U,rfl,cv⟩:=J.slice;rw[ue]at J;have cc:W3.grownBy X none:=aJ (aJ d hd) hg;have bq:(Value.slice T l.length U).ownBlock≠some X.heap.size:=λe=>by have:=(kp J.own _ e).2;omega
   have A:=qT X (.cells ma0 65);obtain⟨O,hM,j,hO⟩:=DW (en:=en) cd hd hg (aK _) (kh hd.size hg.size) A J bq bt;refine c _ _ (bL (.inr cc) fP) ?_;clear c K;refine gU (rs:=[4,5]) oA rfl (iE.cons rfl (λK c=>?_) (iE.cons rfl (λK c=>?_) iE.nil))
   .go_simp;refine c _ _ (bL (.inl rfl) fP) ?_;clear c K;refine gU (rs:=[5]) oA rfl (iE.cons rfl (λK c=>?_) iE.nil);go_simp;refine c _ _ (bL (.inl rfl) fP) ?_;clear c K;refine gU (rs:=[6]) oA rfl (iE.cons rfl (λK c=>?_) iE.nil);rw[if_pos (show Region.wanted _ _=true from rfl)];refine Fx 65 _ _ rfl rfl rfl A rfl oA oA ?_;refine c _ _ (bL (.inl rfl) fP) ?_;clear c K;refine uP oA ?_ _;go_wp2_with fail;go_meet;exact⟨_,O,rfl,hM,j,hO⟩
   .go_simp;refine c _ _ (bL (.inr (aJ cc (aK _))) fP) ?_;clear c K;refine gU (rs:=[4]) oA rfl (iE.cons rfl (λK c=>?_) iE.nil);go_simp;refine c _ _ (bL (.inl rfl) fP) ?_;clear c K;refine gU (rs:=[6]) oA rfl (iE.cons rfl (λK c=>?_) iE.nil);rw[if_pos (show Region.wanted _ _=true from rfl)];refine Fx 65 _ _ rfl rfl rfl A rfl oA oA ?_;refine c _ _ (bL (.inl rfl) fP) ?_;clear c K;refine uP oA ?_ _;go_wp2_with fail;go_meet;exact⟨_,O,rfl,hM,j,hO⟩
  .go_simp;refine c _ _ (bL (.inr (aJ (fK d) (aK _))) fP) ?_;clear c K;refine gU (rs:=[3]) oA rfl (iE.cons rfl (λK c=>?_) iE.nil);go_simp;have bo:H.grownBy (H.drew.alloc (.cells ma0 65)) none:=aJ hd (aK _);have cj:=qT H.drew (.cells ma0 65);refine (HT (H.drew.alloc (.cells ma0 65)) (aJ (aJ P.1 d) bo) (H.heap.size <= ·) (λb S=>od)).mono ?_;rintro e X ⟨sv,us,rfl,J,hg⟩;obtain⟨T,U,rfl,cv⟩:=J.slice;rw[ue]at J;have A:=l5 cj hg;have bq:(Value.slice T l.length U).ownBlock≠some H.drew.heap.size:=λe=>by have:=(kp J.own _ e).1;rw[yb]at this;omega
   obtain⟨O,hM,j,hO⟩:=DW (en:=en) cd bo hg (bM _ _) hd.size A J bq bt;refine c _ _ (bL (.inr (aJ (aJ d bo) hg)) fP) ?_;clear c K;refine gU (rs:=[4]) oA rfl (iE.cons rfl (λK c=>?_) iE.nil);go_simp;refine c _ _ (bL (.inl rfl) fP) ?_;clear c K;refine gU (rs:=[6]) oA rfl (iE.cons rfl (λK c=>?_) iE.nil);rw[if_pos (show Region.wanted _ _=true from rfl)];refine Fx 65 _ _ rfl rfl rfl A rfl oA oA ?_;refine c _ _ (bL (.inl rfl) fP) ?_;clear c K;refine uP oA ?_ _;go_wp2_with fail;go_meet;exact⟨_,O,rfl,hM,j,hO⟩
 case rest =>
  obtain⟨mb,O,rfl,hM,j,hO⟩:=hcut;have hk:=K5 wc (aJ d j);have bm:Hid (Calls prog 29 #[.pointer (some ⟨mb,0,none⟩),.agg #[.slice na az.length nc,.i 0,.n0,.n0]] wc (K8 W.heap.size O wc mb en aC (jO l az))):=Dp (f:=⟨az,0,[],[]⟩) (VW:=λ_=>.i 0) (VA:=λ_=>.i 0) hM (kB _) ⟨show (0:Int)≠67 by decide,I64_0⟩ ((bz.ae (ok':=λb=>¬O b) λb S _ h=>by have:=hO b h;have:=d.size;have:=P.out.1.size;omega).same (λb o _ G=>qn ((aJ (aJ P.1 d) j).block b G ot))) (cK.nil _ _ _ _) (aT.nil _ _ _ _) ⟨bx,qv _,qv _⟩
  have HO:=jh hO;have cn:Hid (W.grownBy wc none):=aJ (aJ P.1 d) j;have I:=jh (l5 P.2.2.2 (aJ d j));have bw:Hid (W.heap.size+1+1<H.heap.size):=jz (qq.1 P.2.2.2).1 d.size;have bl:Hid (∀O6 g wf,dB O wc O6 g->g.grownBy wf none->W.grownBy wf none/\wf.heap[W.heap.size+1+1]?=some (.cells rs0 38)):=λO6 g wf hF hg=>by refine⟨aJ (Ny cn hF λb S=>by have:=HO.out b S;have:=bw.out;omega) hg,l5 ((hF.block _ (qq.1 I).1 λh=>?_).trans I) hg⟩;have:=HO.out _ h;have:=bw.out;omega
  clear hM j hO K5 P HT HN HS cb bn d bz bx
  cases ho:fq en aC N (jO l az)with
  | stuck=>exact absurd ho (uW HD)
  | no er m =>
   rw[ho]at ad HD HQ;clear ho;have hE:=HD.out.2
   by_cases ax:er=10
   .subst ax;have hz:=(hE.resolve_right od).2.2
    go_upto_region 7 with (first
     | (go_at_call 29;(with_reducible refine bm.out.mono ?_);rintro e w5 ⟨rfl,O5,r,u⟩;have Y:=jh r;have ab:=jh u;clear r u)
     | (go_at_call 30;(with_reducible refine (ad.out _ _ _ ab.out).mono ?_);rintro e g ⟨O6,t,_,rfl,m',e1,e2,k,n,a,s',aa,al,ac,T,tl,U,B,nl,C,sv,fv,us,fs,R⟩;have z6:=iM R.blk;rw[e1]at z6;have HL:=Ca g #[.i 10,.n0,.i 0,.i 0,.i 0,.string ⟨#[]⟩,.n0,.n0,.n0,.i m.paid,.i 0];have D:=jh (Y.out.trans t);have H6:=jh R;have ca:=jh R.said;rw[e2]at ca;clear t R e1 e2)
     | (refine sH rfl 38 _ _ rfl rfl rfl (qT _ _) rfl oA oA ?_))
    simp only[rs0]at HL;generalize World.setRow _ _ _=M at *;have z7:=zN HL.2;have z8:=WW (l5 H6.blk HL.1);have A:=qT M (.cells #[.i k,.i n,.i a,.string s',.slice aa al ac,.slice T tl U,.slice B nl C] 36);have cr:Hid (Calls prog 31 #[.slice (some ⟨M.heap.size,0,none⟩) 1 1] (M.alloc (.cells #[.i k,.i n,.i a,.string s',.slice aa al ac,.slice T tl U,.slice B nl C] 36)) (Tu (M.alloc (.cells #[.i k,.i n,.i a,.string s',.slice aa al ac,.slice T tl U,.slice B nl C] 36)) [m.said])):=by
     have hL:=((ca.ae (ok':=λ_=>True) λ_ _ _=>trivial).same (ni (aJ HL.1 (aK (.cells #[.i k,.i n,.i a,.string s',.slice aa al ac,.slice T tl U,.slice B nl C] 36)))));refine zT (V:=λ_=>bg k n a s' aa al ac T tl U B nl C) (a:=some ⟨M.heap.size,0,none⟩) (l:=[m.said]) (ok:=λ_=>True) ⟨by unfold maxLen;simp,λi hi=>?_,λi hi=>?_⟩ (by simp[vsizes];omega) (λx hx=>by simp at hx;subst hx;omega) ot
     .obtain rfl:i=0:=by simpa using hi
      exact⟨_,_,rfl,trivial,k,n,a,s',aa,al,ac,T,tl,U,B,nl,C,rfl,ot⟩
     .obtain rfl:i=0:=by simpa using hi
      exact hL
    have E:=jh HL;clear HL z6 hk hE A;simp only[Act.put]
    go_upto_region 12 with ((go_at_call 31;(refine cr.mono ?_);rintro e w9 ⟨a3,c3,V3,rfl,ay,L,ai⟩;obtain⟨b,o,rfl,S,k2,n2,a2,s2,aq,au,ar,bf,sM,bh,bb,bd,bc,hv,cf⟩:=L.2.1 0 ot;have ba:=L.2.2 0 ot;rw[hv]at ba;simp only[qh0,qc0,qh2,yW]at cf ba ay;have aj:=aJ (aK _) ai;have F:=l5 E.2 aj;have z9:=zN F;have ao:=jh (XD F (.i k2) (.i n2) (.i a2) (.string s2) (.slice aq au ar) (.slice bf sM bh) (.slice bb bd bc));have cq:=jh ba;have cp:=jh aj;clear L ai ba aj F))
    generalize World.setCell _ _ _=wf at *;have cx:=zN ao.1;have an:g.grownBy wf none:=aG (aJ E.1 cp) ao.2 (qv _);obtain⟨q,y⟩:=bl.out _ _ _ D an;have Z:Hid (Q (.returned (.agg #[.i 10,.n0,.i k2,.i n2,.i a2,.string s2,.slice aq au ar,.slice bf sM bh,.slice bb bd bc,.i m.paid,.i 0])) (wf.setRow (W.heap.size+1+1) #[.i 10,.n0,.i k2,.i n2,.i a2,.string s2,.slice aq au ar,.slice bf sM bh,.slice bb bd bc,.i m.paid,.i 0])):=by
     rw[<-HQ.out];have cu:W.heap.size+1+1<g.heap.size/\g.heap.size<M.heap.size:=⟨jz (qq.1 I).1 D.size,(qq.1 E.2).1⟩;refine⟨_,rfl,⟨none,0,λ_=>.i 0,k2,n2,a2,s2,aq,au,ar,bf,sM,bh,bb,bd,bc,rfl,qv _,aT.nil _ _ _ _,?_⟩,aG q (mQ _ _ _) od⟩;refine (cq.same (λb o S G=>?_)).ae (λb _ S=>?_)
     .rw[yb]at S;exact qn (((mQ _ _ _).block b (jz G ao.2.size) (λe=>by cases e;omega)).trans (ao.2.block b G (λe=>by cases e;omega)))
     .rw[yb]at S;omega
    clear z9 z7 z8 cf q hz S ay;go_wp2_with (refine sH rfl 38 _ _ rfl rfl rfl y rfl oA oA ?_);exact zv (results_cell_row results10 _ _ (W.heap.size+1+1) _ _ _ _ rfl (nZ y) underlying38 rfl oA) rfl Z
   .have b0:(er==0)=false:=by simp;omega
    have cy:(er==10)=false:=by simpa using ax
    go_upto_region 7 with (first
     | (go_at_call 29;(with_reducible refine bm.out.mono ?_);rintro e w5 ⟨rfl,O5,r,u⟩;have Y:=jh r;have ab:=jh u;clear r u)
     | (go_at_call 30;(with_reducible refine (ad.out _ _ _ ab.out).mono ?_);rintro e g ⟨O6,t,_,rfl,m',e1,e2,k,n,a,s',aa,al,ac,T,tl,U,B,nl,C,sv,fv,us,fs,R⟩;have z6:=iM R.blk;rw[e1]at z6;have HL:=Ca g #[.i er,.n0,.i 0,.i 0,.i 0,.string ⟨#[]⟩,.n0,.n0,.n0,.i m.paid,.i 0];have D:=jh (Y.out.trans t);have H6:=jh R;clear t R e1)
     | (refine sH rfl 38 _ _ rfl rfl rfl (qT _ _) rfl oA oA ?_))
    simp only[rs0]at HL;generalize World.setRow _ _ _=M at *;have z7:=zN HL.2;obtain⟨q,y⟩:=bl.out _ _ _ D HL.1;have Z:Hid (Q (.returned (.agg #[.i er,.n0,.i 0,.i 0,.i 0,.string ⟨#[]⟩,.n0,.n0,.n0,.i m.paid,.i 0])) (M.setRow (W.heap.size+1+1) #[.i er,.n0,.i 0,.i 0,.i 0,.string ⟨#[]⟩,.n0,.n0,.n0,.i m.paid,.i 0])):=by rw[<-HQ.out];refine⟨_,rfl,?_,aG q (mQ _ _ _) od⟩;rw[show rsO (.no er m)=⟨er,[],zeroVa,m.paid,0⟩ by simp only[rsO,if_neg ax]];exact Wp _ _
    clear HL z6 hk q hE ax;simp only[Act.put];go_wp2_with (refine sH rfl 38 _ _ rfl rfl rfl y rfl oA oA ?_);exact zv (results_cell_row results10 _ _ (W.heap.size+1+1) _ _ _ _ rfl (nZ y) underlying38 rfl oA) rfl Z
  | go m =>
   rw[ho]at ad HD;rw[ho]at HQ;clear ho
   go_upto_region 7 with (first
    | (go_at_call 29;(with_reducible refine bm.out.mono ?_);rintro e w5 ⟨rfl,O5,r,u⟩;have Y:=jh r;have ab:=jh u;clear r u)
    | (go_at_call 30;(with_reducible refine (ad.out _ _ _ ab.out).mono ?_);rintro e g ⟨O6,t,rfl,k,n,a,s',aa,al,ac,T,tl,U,B,nl,C,sv,fv,us,fs,R⟩;have z6:=iM R.blk;have HL:=Ca g #[.i 0,.n0,.i 0,.i 0,.i 0,.string ⟨#[]⟩,.n0,.n0,.n0,.i m.paid,.i 0];have D:=jh (Y.out.trans t);have H6:=jh R;clear t R)
    | (refine sH rfl 38 _ _ rfl rfl rfl (qT _ _) rfl oA oA ?_))
   simp only[rs0]at HL;generalize World.setRow _ _ _=M at *;have z7:=zN HL.2;have E:=jh HL;clear HL z6 hk;simp only[Act.put]
   go_upto_region 9 with (fail)
   have p:g.grownBy M.drew none:=fK E.1;have ct:Hid (Calls prog 28 #[sv] M.drew (IV O6 M.drew m.st)):=by have h:=Cy (H6.grow p).jL.src (by have:=HD.out.2.2.2.2.2;simp;omega);rw[je2]at h;exact h
   refine wR (cs:=[((2:Nat),λw:World=>g.grownBy w none),((9:Nat),λw:World=>g.grownBy w none)]) 10 oA oA ?_;refine dN (i:=0) (some 43) (bL (.inr p) (bL (.inr p) fP)) ?_;simp only[Act.put,kO,xF,zE];refine ry (i:=1) (k:=2) (some 44) (bL (.inr p) (bL (.inr p) fP)) (.head _) (Or.inl ⟨by rfl,λw hw=>by have hk:=iM (l5 H6.out.blk hw);go_simp;with_reducible rfl⟩) ?_ (hi:=rfl);simp only[Act.put,kO,xF,zE];refine dN (i:=4) (some 47) (bL (.inr p) (bL (.inr p) fP)) ?_;simp only[Act.put,kO,xF,zE];refine ry (i:=5) (k:=9) (some 48) (bL (.inr p) (bL (.inr p) fP)) (.tail _ (.head _)) (Or.inl ⟨by rfl,λw hw=>by have hk:=iM (l5 H6.out.blk hw);go_simp;with_reducible rfl⟩) ?_ (hi:=rfl);simp only[Act.put,kO,xF,zE];refine gU (rs:=[2]) oA rfl (iE.cons rfl (λK c=>?_) iE.nil);go_simp;refine ct.out.mono ?_;rintro e w8 ⟨v,cA,rfl,J,aE⟩;obtain⟨a2,c2,rfl,cz⟩:=J.slice;have cm:g.grownBy w8 none:=aJ p aE;refine c.out _ _ (bL (.inl rfl) (bL (.inr cm) fP)) ?_;clear c K;refine gU (rs:=[3]) oA rfl (iE.cons rfl (λK c=>?_) iE.nil);go_simp;refine (Xz J aE HD.out.2.2.2.2.1 HD.out.2.2.2.2.2).mono ?_;rintro e w9 ⟨a3,c3,V3,rfl,ay,L,ai⟩;have br:g.grownBy w9 none:=aJ cm ai;refine c.out _ _ (bL (.inl rfl) (bL (.inr br) fP)) ?_;clear c K;have F:=l5 E.out.2 (aJ (fK (bM M none)) (aJ aE ai));have z9:=zN F;have bp:=(Wq F (.slice a3 m.st.length c3)).1;have cw:=zN bp;have cl:=(Wq bp (.i m.aO)).2;refine dN (i:=6) (some 49) (bL (.inl rfl) (bL (.inr br) fP)) ?_;simp only[Act.put,kO,xF,zE];have ak:g.grownBy (w9.setCell ⟨g.heap.size,1,none⟩ (.slice a3 m.st.length c3)) none:=aG br (dY (bM _ _) _ _ _) (qv _);refine gU (rs:=[7]) oA rfl (iE.cons rfl (λK c=>?_) iE.nil);go_simp;refine c.out _ _ (bL (.inl rfl) (bL (.inr ak) fP)) ?_;clear c K;refine dN (i:=8) (some 50) (bL (.inl rfl) (bL (.inr ak) fP)) ?_;simp only[Act.put,kO,xF,zE];refine gU (rs:=[9]) oA rfl (iE.cons rfl (λK c=>?_) iE.nil);go_simp;refine c.out _ _ (bL (.inl rfl) (bL (.inl rfl) fP)) ?_;clear c K;have an:g.grownBy ((w9.setCell ⟨g.heap.size,1,none⟩ (.slice a3 m.st.length c3)).setCell ⟨g.heap.size,10,none⟩ (.i m.aO)) none:=aG ak (dY (bM _ _) _ _ _) (qv _);refine uP oA ?_ _;have cx:=zN cl;clear z7 z9 cw bp F;obtain⟨q,y⟩:=bl.out _ _ _ D.out an;have Z:Hid (Q (.returned (.agg #[.i 0,.slice a3 m.st.length c3,.i 0,.i 0,.i 0,.string ⟨#[]⟩,.n0,.n0,.n0,.i m.paid,.i m.aO])) (((w9.setCell ⟨g.heap.size,1,none⟩ (.slice a3 m.st.length c3)).setCell ⟨g.heap.size,10,none⟩ (.i m.aO)).setRow (W.heap.size+1+1) #[.i 0,.slice a3 m.st.length c3,.i 0,.i 0,.i 0,.string ⟨#[]⟩,.n0,.n0,.n0,.i m.paid,.i m.aO])):=by
    rw[<-HQ.out];have cu:W.heap.size+1+1<g.heap.size/\g.heap.size<w8.heap.size:=⟨jz (qq.1 I).1 D.size,jz (qq.1 E.2).1 aE.size⟩;refine⟨_,rfl,⟨a3,c3,V3,_,_,_,_,_,_,_,_,_,_,_,_,_,rfl,ay,?_,rV _ _⟩,aG q (mQ _ _ _) od⟩;refine (L.same (λb o S G=>?_)).ae (λb _ S=>?_)
    .exact qn (((mQ _ _ _).block b (by simpa using G) (λe=>by cases e;omega)).trans ((dY (dY (bM w9 (some g.heap.size)) _ _ _) _ _ _).block b G (λe=>by cases e;omega)))
    .have:=q.size;omega
   clear L J q;go_wp2_with (refine sH rfl 38 _ _ rfl rfl rfl y rfl oA oA ?_);exact zv (results_cell_row results10 _ _ (W.heap.size+1+1) _ _ _ _ rfl (nZ y) underlying38 rfl oA) rfl Z
def Vb{b:Bool}(d:Ah en=b)(hN:b=true->∀j,W.grownBy j none->Calls prog 27 #[af nk nn np nz na az.length nc,.slice sa s.length sc,.slice la l.length lc] j λe w'=>e =.returned (.bool false)/\j.grownBy w' none) :
 Calls prog 10 #[.agg #[.i en.self,.i en.sender,.i en.amount,.i en.balance],af nk nn np nz na az.length nc,.slice sa s.length sc,.slice la l.length lc,.i aC] W (PN W (rsO .stuck)):=by
 have o:=jh (DD en);rw[d]at o;have g:=jh hN;clear d hN;unfold af at g|-;generalize p:PN W (rsO .stuck)=Q;have q:=jh p;clear p;have f:=jh (PS W (.cells #[.i en.self,.i en.sender,.i en.amount,.i en.balance] 23) (.cells #[.i nk,.i nn,.i np,.string nz,.slice na az.length nc] 26) (.cells rs0 38));have k:Hid (∀w',W.grownBy w' none->Q (.returned (.agg #[.i 14,.n0,.i 0,.i 0,.i 0,.string ⟨#[]⟩,.n0,.n0,.n0,.i 0,.i 0])) (w'.setRow (W.heap.size+1+1) #[.i 14,.n0,.i 0,.i 0,.i 0,.string ⟨#[]⟩,.n0,.n0,.n0,.i 0,.i 0])):=λw' r=>by rw[<-q.out];exact⟨_,rfl,Wp _ _,aG r (mQ _ _ _) od⟩
 cases b
 all_goals
  try replace g:=jh (g rfl)
  go_enter func10,ntmps10
  go_upto_region 1 with (fail)
  simp only[rs0]at f;generalize ((W.alloc _).alloc _).alloc _=m at *;have n:m.grownBy m none:=bM _ _;have t:=λ(w':World) (h:m.grownBy w' none)=>And.intro (WY (l5 f.2.1 h)) (bE (l5 f.2.2.1 h));go_wp2_with (first
   | (go_at_call 26;(with_reducible refine (o.out _).mono ?_);rintro e u ⟨rfl,c⟩;have a:=aJ n c;clear c)
   | (go_at_call 27;(with_reducible refine (g.out _ (aJ f.out.1 a)).mono ?_);rintro e j ⟨rfl,c⟩;replace a:=aJ a c;clear c)
   | (refine sH rfl 38 _ _ rfl rfl rfl (l5 f.2.2.2 a) rfl oA oA ?_))
  exact zv (results_cell_row results10 _ _ (W.heap.size+1+1) _ _ _ _ rfl (nZ (l5 f.2.2.2 a)) underlying38 rfl oA) rfl (k _ (aJ f.1 a))
end
open Pe
def Xc (en:En):A1:=.agg [.d (.v (.i en.self)),.d (.v (.i en.sender)),.d (.v (.i en.amount)),.d (.v (.i en.balance))]
def YW (r:Rs):A1:=.agg [.d (.v (.i r.code)),.d (.s 7 (vasD r.stack)),.d (.v (.i r.said.k)),.d (.v (.i r.said.n)),.d (.v (.i r.said.a)),.d (.v (.string r.said.s)),.d (.s 7 (vasD r.said.args)),.d (.s 2 (tysD r.said.types)),.d (.s 5 (ndsD r.said.code)),.d (.v (.i r.aC)),.d (.v (.i r.aO))]
def TZ{ok:Nat->Prop}{w:World}{en:En}{v:Value}(h:gm (λ_=>none) ok w (Xc en) v):v =.agg #[.i en.self,.i en.sender,.i en.amount,.i en.balance]:=by
 obtain⟨k,rfl,h⟩:=h
 match k,h with
 | [a,b,c,d],⟨e,f,g,j,_⟩ =>
  rw[bW e,bW f,bW g,bW j]
def XC{ok:Nat->Prop}{w:World}{r:Rs}{v:Value}(h:WQ ok w r v):iZ (λ_=>none) ok w (.of (YW r)) v:=by obtain⟨sa,sc,V,k,n,a,s,y,al,z,B,tl,C,na,A,nc,rfl,l,j,i⟩:=h;obtain⟨b,c,u,x,m,o,e,p,q,t⟩:=y9 i;simp only[bg,qb3,qc1,xj,qg5,jf6,true_and,and_true]at e;obtain⟨rfl,rfl,rfl,rfl,d,f,g⟩:=e;rw[d,f,g];exact⟨_,rfl,.v _,yu j l,.v _,.v _,.v _,.v _,p,q,t,.v _,.v _,trivial⟩
def VK{en:En}{n:Tr}{s:List Ty}{l:List Va}{aC:Int}(L:okN n)(P:n.size<=4611686018427387904)(Y:okTs s)(X:okVs l)(h6:l.length<=10000000)(hz:∀x∈l,x.size<=6000000)(z:bD aC)(I:aC<=50000) :
 Hd ⟨10,[Xc en,ndA n,dZ s,qi l,iA aC],.of (YW (Fy en n s l aC))⟩:=⟨bK func10,λok w vs h=>by
 match vs,h with
 | [ev,nv,sv,Z,gv],⟨he,C,D,A,J,_⟩ =>
  have hM:=(Pn L P Y X hz (λe h=>EO h)).runN rfl;have d:∀g,w.grownBy g none->Calls prog 27 #[nv,sv,Z] g λe p=>e =.returned (.bool (rW n s l))/\g.grownBy p none:=λg q=>by have k:zH ok w ok g:=⟨q.size,λb F h=>⟨h,λo=>qn (q.block b F ot)⟩⟩;refine (hM ok g [nv,sv,Z] ⟨C.keep k (λ_ _ h=>h),D.keep k (λ_ _ h=>h),A.keep k (λ_ _ h=>h),trivial⟩).mono ?_;rintro e p ⟨z,v,rfl,hv⟩;exact⟨by rw[bW hv],z⟩
  obtain rfl:=TZ he;obtain rfl:gv =.i aC:=bW J;have hL:=oK L C;obtain⟨_,nk,nn,np,nz,na,nc,t,rfl,j⟩:=qL hL;obtain⟨sa,sc,VS,rfl,ah,ab⟩:=jR Y (.inl rfl) D;obtain⟨la,lc,VL,rfl,ad,H⟩:=lV X (.inl rfl) A;obtain⟨Q,n1,R,S,az⟩:=n;simp only[Tr.args0,Tr.nd.injEq,and_true]at t j d|-;obtain⟨rfl,rfl,rfl,rfl⟩:=t;have fin:∀(r:Rs) (e:Ending) (p:World),PN w r e p->w.grownBy p none/\∃v,e =.returned v/\iZ (λ_=>none) (λb=>ok b\/w.heap.size<=b) p (.of (YW r)) v:=λr e p ⟨v,e1,hr,z⟩=>by obtain⟨sa,sc,V,k,n,a,s,aa,al,ac,ta,tl,tc,na,nl,nc,e2,u,hV,hS⟩:=hr;exact⟨z,v,e1,XC ⟨sa,sc,V,k,n,a,s,aa,al,ac,ta,tl,tc,na,nl,nc,e2,u,hV.ae (λb _ h=>.inr h),hS.ae (λb _ h=>.inr h)⟩⟩
  by_cases G:Ah en=true/\rW (.nd Q n1 R S az) s l=true
  .unfold Fy;rw[if_pos G];obtain⟨m,B⟩:=G;obtain⟨⟨f,x,u⟩,W⟩:=JW.1 B;have y:=Md m;have hx:=uV u;have U:x.length<=342:=by omega
   have E:f=false->x=x:=λ_=>rfl;obtain⟨N,T⟩:=Cg (aC:=aC) y u E U W hz;rw[xA (uW T)];obtain⟨M,c⟩:az.length<=nc/\∃V,cK ok w az na V:=by obtain⟨_,h1,V,h2⟩:=rep_rowN _ (qv _) L.2 j;exact⟨h1,V,h2⟩
   obtain⟨VR,c⟩:=c;rw[B]at d;exact (RA m y c M U I (Gg u E W hz) T d (λg q O hO=>Cy (Src.row ((H.ae (ok':=λb=>¬O b) λb F _ h=>by have:=hO b h;omega).same (λb o _ K=>qn (q.block b K ot)))) od) z).mono (fin _)
  .unfold Fy;rw[if_neg G];refine (Vb (b:=Ah en) (s:=s) (l:=l) (az:=az) rfl (λF g q=>?_)).mono (fin _);have:=d g q;rw[show rW (.nd Q n1 R S az) s l=false by cases h:rW (.nd Q n1 R S az) s l with|false=>rfl|true=>exact absurd ⟨F,h⟩ G]at this;exact this⟩
open Pe (fI gm dU iZ A1 bW)
def KN{O:Nat->Prop}{W:World}{l:List Va}{xv:Value}(h:Src O W l xv)(r:l.length<=20000000):Calls prog 11 #[xv] W (IV O W l):=by obtain⟨n,g,a,j⟩:=h;have f:=lL (mO a j);rw[a]at f g;have c:Hid (nI O W W (.n0) [] []):=⟨qa2 _ _ _ _,rfl,λi x u h=>by simp at h⟩;have q:=jh g;have e:=jh j;clear g j;go_enter func11,ntmps11;go_wp2_with (at_builtin;refine ed rfl _ _ 28 rfl W.heap.size 36 underlying28 mr rfl ov _ ([]:List Value).length (flat []) rfl c.out.own _ l.length (flat n) rfl f.1 q.out f.2 Zs Up (qv _) ?_;intro o p m k _;have b:=jh (dX (bM W none) c.out.own (qv _) k.1);have d:=jh (c.out.more (v':=o) (w':=p) (l2:=l) (ns:=n) (by unfold dF;rw[bV,qS,a];exact m) a e.out);clear m k);go_ret;exact⟨_,_,rfl,by simpa using d.out,b.out⟩
def Pt{l:List Va}(hk:okVs l)(r:l.length<=20000000):Hd ⟨11,[qi l],.of (qi l)⟩:=⟨bK func11,λok w y h=>by
 match y,h with
 | [v],⟨f,_⟩ =>
  obtain⟨a,c,V,rfl,_,n⟩:=lV hk (.inl rfl) f;refine (KN (O:=λb=>¬ok b/\b<w.heap.size) (Src.row (n.ae λb _ f j=>j.1 f)) r).mono ?_;rintro e A ⟨v,z,rfl,d,m⟩;obtain⟨a,c,V,rfl,q,hR⟩:=uG (ok:=λb=>ok b\/w.heap.size<=b) d.own d.len (λi x u t s=>((d.lies i x u t s).ae (ok':=λb=>ok b\/w.heap.size<=b) λb p h=>.inl (qh5 λj=>h ⟨j,p⟩)).same (λb o _ k=>qn (m.block b k ot))) (λg e=>.inr (kp d.own g e).1) oT;exact⟨m,_,rfl,yu hR q⟩⟩
def OH{ok:Nat->Prop}{W:World}{l:List Ty}{a:Option Addr}{c:Nat}{V:Nat->Value}(h:dw ok W l a V)(t:l.length<=20000000):Calls prog 9 #[.slice a l.length c] W λe w'=>∃v us,e =.returned v/\vN ok W w' v l us/\W.grownBy w' none:=by obtain⟨us,o,n,r,s,p⟩:=h.Vf c;have d:Hid (vN ok W W (.n0) [] []):=⟨qa2 _ _ _ _,rfl,λi x u h=>by simp at h⟩;have q:=jh n;have g:=jh p;clear h n p;go_enter func9,ntmps9;go_wp2_with (at_builtin;refine ed rfl _ _ 27 rfl W.heap.size 54 underlying27 rO rfl ov _ ([]:List Value).length (bX []) rfl d.out.own _ l.length (bX us) rfl r q.out s Zs Up (qv _) ?_;intro m w' k j _;have b:=jh (dX (bM W none) d.out.own (qv _) j.1);have f:=jh (d.out.more (v':=m) (w':=w') (us:=l) (ns:=us) (by unfold wS;rw[dx,qS,o];exact k) o g.out);clear k j);go_ret;exact⟨_,_,rfl,by simpa using f.out,b.out⟩
def Tm{l:List Ty}(hk:okTs l)(i:l.length<=20000000):Hd ⟨9,[dZ l],.of (dZ l)⟩:=⟨bK func9,λok w j h=>by
 match j,h with
 | [v],⟨d,_⟩ =>
  obtain⟨a,c,V,rfl,_,g⟩:=jR hk (.inl rfl) d;refine (OH g i).mono ?_;rintro e m ⟨v,k,rfl,f,b⟩;exact⟨b,_,rfl,f.rep b oT⟩⟩
def qR (k:Int):Int:=if k.tmod 3000<0 then k.tmod 3000+3000 else k.tmod 3000
def Rh(k:Int):0<=qR k/\qR k<3000:=by have a:=Int.lt_tmod_of_pos k (b:=3000) ov;have c:=Int.tmod_lt_of_pos k (b:=3000) ov;unfold qR;split<;>omega
def Rj(k:Int)(hk:bD k)(w:World):Calls prog 32 #[.i k,.i 3000] w λe w'=>e =.returned (.i (qR k))/\w'=w:=by
 obtain⟨f,g⟩:=hk;have c:=Int.lt_tmod_of_pos k (b:=3000) ov;have d:k.tmod 3000<3000:=Int.tmod_lt_of_pos k ov;unfold qR
 by_cases a:k.tmod 3000<0
 .rw[if_pos a];go_enter func32,ntmps32;go_wp2_with fail;go_ret;exact⟨rfl,rfl⟩
 .rw[if_neg a];go_enter func32,ntmps32;go_wp2_with fail;go_ret;exact⟨rfl,rfl⟩
def WE{k:Int}(hk:bD k):Hd ⟨12,[iA k],.of (iA (qR k))⟩:=by
 have h:Hd ⟨32,[iA k,iA 3000],.of (iA (qR k))⟩:=⟨bK func32,λok w f h=>by
  match f,h with
  | [u,v],⟨c,d,_⟩ =>
   obtain rfl:u =.i k:=bW c;obtain rfl:v =.i 3000:=bW d;exact (Rj k hk w).mono λe g ⟨a,b⟩=>⟨b ▸ bM _ _,_,a,.v _⟩⟩
 exact aF func12 [⟨_,h⟩]
def vW (en:En) (s:List Ty) (l:List Va):Bool:=Ah en&&decide (s.length=l.length)&&fitsAll s l
section
variable (ok:Nat->Prop) (w:World)
def Ye:List D->List D->Prop
 | [],[]=>True
 | x::xs,y::ys=>(∀u,fI ok w x u->fI ok w y u)/\Ye xs ys
 | _,_=>False
end
def Ye.at{ok:Nat->Prop}{w:World} : ∀{r r':List D},Ye ok w r r'->r'.length=r.length/\∀(j:Nat) (c:D),r'[j]?=some c->∃x,r[j]?=some x/\∀u,fI ok w x u->fI ok w c u
 | [],[],_=>⟨rfl,λj x h=>by simp at h⟩
 | x::g,y::i,⟨e,f⟩=>by
  obtain⟨a,b⟩:=Ye.at f;refine⟨by simp[a],λj c d=>?_⟩
  cases j with
  | zero=>simp at d;subst d;exact⟨x,rfl,e⟩
  | succ j=>exact b j c (by simpa using d)
def Fu{ok:Nat->Prop}{w:World}{n:Nat}{r r':List D}{v:Value}(h:Ye ok w r r')(u:fI ok w (.s n [r]) v):fI ok w (.s n [r']) v:=by
 obtain⟨g,f⟩:=h.at
 cases u with
 | s U l m o k t hz =>
  have a:∀(i:Nat) (q:List D),[r'][i]?=some q->i=0/\q=r':=λi q e=>by
   cases i with
   | zero=>simp at e;exact⟨rfl,e.symm⟩
   | succ i=>simp at e
  refine fI.s (es:=[r']) U l m (λi q e=>?_) (λi q j x b c=>?_) (λi q j x b c=>?_) hz
  .obtain⟨rfl,rfl⟩:=a i q e;rw[g];exact o 0 r rfl
  .obtain⟨rfl,rfl⟩:=a i q b;obtain⟨y,d,_⟩:=f j x c;exact k 0 r j y rfl d
  .obtain⟨rfl,rfl⟩:=a i q b;obtain⟨y,d,p⟩:=f j x c;exact p _ (t 0 r j y rfl d)
def runsN:Tr:=.nd 3 0 0 ⟨#[]⟩ [.nd 2 0 40 ⟨#[]⟩ []]
def runs_eq:Fy ⟨0,0,0,0⟩ runsN [.nd 4 []] [.mk 4 3 0 ⟨#[]⟩ [] [] []] 9=⟨0,[],zeroVa,1,0⟩:=by unfold Fy;rw[if_pos ⟨ov,oA⟩,xA (N:=3) (by rw[show fq ⟨0,0,0,0⟩ 9 3 (jO [.mk 4 3 0 ⟨#[]⟩ [] [] []] runsN.args0) =.go ⟨1,0,zeroVa,[],[]⟩ by kernel_rfl];simp)];rw[show fq ⟨0,0,0,0⟩ 9 3 (jO [.mk 4 3 0 ⟨#[]⟩ [] [] []] runsN.args0) =.go ⟨1,0,zeroVa,[],[]⟩ by kernel_rfl];rfl
def dropD:List D:=[.v (.i 2),.v (.i 0),.v (.i 40),.v (.string ⟨#[]⟩),.s 0 []]
def H_seq1:Hd ⟨34,[.one (.d (.s 5 [dropD]))],.of (.agg [.d (.v (.i 3)),.d (.v (.i 0)),.d (.v (.i 0)),.d (.v (.string ⟨#[]⟩)),.d (.s 5 [dropD])])⟩:=aF func34 []
def H_run1:Hd ⟨10,[Xc ⟨0,0,0,0⟩,.agg [.d (.v (.i 3)),.d (.v (.i 0)),.d (.v (.i 0)),.d (.v (.string ⟨#[]⟩)),.d (.s 5 [dropD])],.one (.d (.s 2 [[.v (.i 4),.s 0 []]])),.one (.d (.s 7 [[.v (.i 4),.v (.i 3),.v (.i 0),.v (.string ⟨#[]⟩),.s 0 [],.s 0 [],.s 0 []]])),iA 9],.of (YW ⟨0,[],zeroVa,1,0⟩)⟩:=by
 have f:∀k:Int,-1000<=k->k<=1000->bD k:=λk g j=>⟨od,od⟩;have h:=VK (en:=⟨0,0,0,0⟩) (n:=runsN) (s:=[.nd 4 []]) (l:=[.mk 4 3 0 ⟨#[]⟩ [] [] []]) (aC:=9) ⟨⟨f _ ov ov,f _ ov ov,f _ ov ov,kB _⟩,⟨⟨f _ ov ov,f _ ov ov,f _ ov ov,kB _⟩,trivial⟩,trivial⟩ ov ⟨⟨f _ ov ov,trivial⟩,trivial⟩ ⟨⟨⟨f _ ov ov,f _ ov ov,f _ ov ov,kB _⟩,trivial,trivial,trivial⟩,trivial⟩ ov (λx m=>by simp at m;subst m;decide) (f _ ov ov) ov;rw[runs_eq]at h;refine h.conv (λok w D u=>?_) (λ_ _ _ h=>h)
 match D,u with
 | [a,b,c,d,e],⟨g,⟨bs,t,j⟩,o,p,q,_⟩ =>
  match bs,j with
  | [E,F,G,H,I],⟨y,z,A,B,C,_⟩ =>
   exact⟨g,⟨_,t,y,z,A,B,Fu (r:=dropD) (r':=[.v (.i 2),.v (.i 0),.v (.i 40),.v (.string ⟨#[]⟩),.s 5 []]) ⟨λ_ h=>h,λ_ h=>h,λ_ h=>h,λ_ h=>h,λ_ h=>gG h,trivial⟩ C,trivial⟩,Fu (r:=[.v (.i 4),.s 0 []]) (r':=[.v (.i 4),.s 2 []]) ⟨λ_ h=>h,λ_ h=>gG h,trivial⟩ o,Fu (r:=[.v (.i 4),.v (.i 3),.v (.i 0),.v (.string ⟨#[]⟩),.s 0 [],.s 0 [],.s 0 []]) (r':=[.v (.i 4),.v (.i 3),.v (.i 0),.v (.string ⟨#[]⟩),.s 7 [],.s 2 [],.s 5 []]) ⟨λ_ h=>h,λ_ h=>h,λ_ h=>h,λ_ h=>h,λ_ h=>gG h,λ_ h=>gG h,λ_ h=>gG h,trivial⟩ p,q,trivial⟩
def H_runs:Hd ⟨14,[],aQ true⟩:=aF func14 [⟨_,H_seq1⟩,⟨_,H_run1⟩]
def Qc{n:Tr}{s x:List Ty}{f:Bool}(h:codeF n s =.ok f x):okN n:=by
 unfold codeF at h;split at h
 .cases h
 .rename_i a;exact first_okN n 1 (iV (by simpa using a)).1
def fit_ok:∀(N:Nat) {T:Ty}{v:Va},v.size<=N->Fit T v->okV v:=λN=>by
 induction N with
 | zero=>intro T v B;have:=eP v;omega
 | succ N C =>
  intro T v B h;obtain⟨z,o,⟨D,w,A⟩,p,e⟩:=iO h;have m:=oM z;have d:∀x∈v.args,okV x:=λx i=>by obtain⟨U,_,r⟩:=fitS_mem A x i;exact C (by have:=IK i;have:=fO i;have:=eP v;omega) r
  obtain⟨k,n,a,s,args,types,code⟩:=v;simp only[eX,qu,qc7,ki]at o;obtain⟨⟨⟨⟨⟨g,f⟩,l⟩,q⟩,b⟩,c⟩:=o;simp only[Va.k,Va.n,Va.a,Va.s,Va.types,Va.code,Va.args]at g f l q b c d e w;obtain⟨t,j⟩:=T;simp only[Ty.t,Ty.args]at *;refine⟨⟨g ▸ m.1,?_,?_,?_⟩,okVs_at.2 d,?_,?_⟩
  .unfold bQ kE gN lY at f;unfold bD
   repeat' split at f
   all_goals simp at f;omega
  .simp only[lY,ki]at l;unfold bD;omega
  .unfold maxLen;omega
  .unfold eZ at b;split at b
   .match types,b with
    | [u],b=>exact⟨oM b,trivial⟩
   .split at b
    .rw[sameTs_eq _ _ b];exact m.2
    .have : types=[]:=ju (by simpa using b);rw[this];trivial
  .rcases c with c|c
   .rw[ju c];trivial
   .have d:=e (g.trans c);unfold jG at d;split at d
    .cases d
    .rename_i y;exact (Qc y).2
def T9{s:List Ty}{l:List Va}(h:FitS s l):okVs l:=okVs_at.2 λx b=>by obtain⟨T,_,a⟩:=fitS_mem h x b;exact fit_ok _ (qv _) a
section
variable {en:En}{n:Tr}{s x:List Ty}{l:List Va}{f:Bool}{g aC:Int}
def fitsK_iff:vW en s l=true ↔ Ah en=true/\FitS s l:=by
 simp only[vW,qu,ki];constructor
 .rintro⟨⟨b,a⟩,c⟩;exact⟨b,(fitsAll_iff a).1 c⟩
 .rintro⟨b,a⟩;exact⟨⟨b,fitS_len a⟩,(fitsAll_iff (fitS_len a)).2 a⟩
def Rz(i:codeF n s =.ok f x)(t:vW en s l=true)(p:Sm l):∃N o,fq en g N (jO l n.args0)=o/\Fy en n s l g=rsO o/\Done g x o/\(f=true->∀m,o ≠ .go m):=by
 obtain⟨a,hF⟩:=fitsK_iff.1 t;have c:=Md a;have u:=uV i;obtain⟨N,b⟩:=Cg (aC:=g) (z:=x) c i (λ_=>rfl) od hF p;refine⟨N,_,rfl,?_,b,λd m e=>?_⟩
 .unfold Fy;rw[if_pos ⟨a,JW.2 ⟨⟨f,x,i⟩,hF⟩⟩,xA (uW b)]
 .obtain⟨M,j⟩:=Cg (aC:=g) (z:=[.nd 1 []]) c i (λh=>by rw[d]at h;cases h) ov hF p;have q:fq en g N (jO l n.args0)=fq en g M (jO l n.args0):=(xA (uW b)).symm.trans (xA (uW j));rw[<-q,e]at j;rw[e]at b;have r:=fitS_len j.1;have k:=fitS_len b.1;rw[u.2.2 d]at k;simp at r k;omega
def run_stuck(h:(∃e,codeF n s =.no e)\/vW en s l=false):Fy en n s l g=⟨14,[],zeroVa,0,0⟩:=by
 unfold Fy;rw[if_neg ?_]
 .rfl
 .rintro⟨b,c⟩;obtain⟨⟨f,x,a⟩,hF⟩:=JW.1 c;rcases h with⟨e,d⟩|h
  .rw[d]at a;cases a
  .rw[fitsK_iff.2 ⟨b,hF⟩]at h;cases h
end
def Xd(ok:Nat->Prop)(w:World)(en:En):gm (λ_=>none) ok w (Xc en) (.agg #[.i en.self,.i en.sender,.i en.amount,.i en.balance]):=⟨[.i en.self,.i en.sender,.i en.amount,.i en.balance],rfl,.v _,.v _,.v _,.v _,trivial⟩
def tlength_le:∀l:List Ty,l.length<=tysizes l
 | []=>kB _
 | T::l=>by have:=tlength_le l;obtain⟨t,a⟩:=T;simp only[jn,tysizes,Ty.size];omega
def paidO:Out->Int
 | .stuck=>0
 | .no _ m=>m.paid
 | .go m=>m.paid
def KP (p:Int) (sd:Va) (F:List Fr):Out->Prop
 | .stuck=>True
 | .no _ m=>m.paid=p
 | .go m=>m.paid=p/\m.said=sd/\(m.fr=F\/∃g,m.fr=g::F)
section
variable {p mi:Int}{sd:Va}{st:List Va}{F:List Fr}
def aao(l:List Va):KP p sd F (oH ⟨p,mi,sd,st,F⟩ l):=by
 unfold oH
 repeat' split
 all_goals first|exact trivial|exact rfl|exact⟨rfl,rfl,.inl rfl⟩
def aae(g:Fr)(l:List Va):KP p sd F (oH ⟨p,mi,sd,st,g::F⟩ l):=by
 unfold oH
 repeat' split
 all_goals first|exact trivial|exact rfl|exact⟨rfl,rfl,.inr ⟨_,rfl⟩⟩
def kp_go:KP p sd F (.go ⟨p,mi,sd,st,F⟩):=⟨rfl,rfl,.inl rfl⟩
def aal(g:Fr):KP p sd F (.go ⟨p,mi,sd,st,g::F⟩):=⟨rfl,rfl,.inr ⟨_,rfl⟩⟩
def aar(e:Int){a:Va}{b:List Fr} : KP p sd F (.no e ⟨p,mi,a,st,b⟩):=rfl
def kp_stuck:KP p sd F .stuck:=trivial
def aan{c:Prop}[Decidable c]{a b:Out}(h:KP p sd F a)(k:KP p sd F b):KP p sd F (if c then a else b):=by split<;>assumption
end
def aam(en:En)(n:Tr)(m:Ma):KP m.paid m.said m.fr (Qy en n m):=by
 obtain⟨p,mi,sd,st,a⟩:=m;unfold Qy;dsimp only
 repeat' (with_reducible first|apply aan|exact kp_stuck|exact aao _|exact kp_go|exact aar _|exact aae _ _|exact aal _|split|(first|unfold p9|unfold l8|unfold il|unfold gJ|unfold mq|unfold gL|unfold xm|unfold jQ|unfold iB|unfold iw|unfold jP|unfold oV|unfold Gu);try dsimp only)
def aaj{en:En}{n:Tr}{m:Ma}{o:Out}(h:Qy en n m=o):KP m.paid m.said m.fr o:=h ▸ aam en n m
section
variable {en:En}{n:Tr}{s:List Ty}{l:List Va}{g g':Int}
def Z7(en:En)(n:Tr)(s:List Ty)(i:Sm l):(∀g,Fy en n s l g=⟨14,[],zeroVa,0,0⟩)\/∃x:List Ty,∀g,∃N,Fy en n s l g=rsO (fq en g N (jO l n.args0))/\Done g x (fq en g N (jO l n.args0)):=by
 by_cases a:∃f x,codeF n s =.ok f x
 .obtain⟨f,x,a⟩:=a
  cases b:vW en s l with
  | false=>exact .inl λg=>run_stuck (.inr b)
  | true =>
   refine .inr ⟨x,λg=>?_⟩;obtain⟨N,o,rfl,d,h,_⟩:=Rz (g:=g) a b i;exact⟨N,d,h⟩
 .refine .inl λg=>run_stuck (.inl ?_)
  cases e:codeF n s with
  | no c=>exact⟨c,rfl⟩
  | ok f x=>exact absurd ⟨f,x,e⟩ a
end
mutual
def sameN_self:∀t:Tr,Ot uK t t=0
 | .nd k n p s a=>by
  have h:uK (.nd k n p s a) (.nd k n p s a)=0:=by simp[uK]
  rw[Ot,if_neg (by rw[h];simp)];exact sameNs_self a
def sameNs_self:∀l:List Tr,jk uK l l=0
 | []=>by simp[jk]
 | t::l=>by rw[jk,if_neg (by rw[sameN_self t];simp)];exact sameNs_self l
end
mutual
def sameV_self0:∀x:Va,qg uL x x=0
 | .mk k n a s az b c=>by
  have h:uL (.mk k n a s az b c) (.mk k n a s az b c)=0:=by simp[uL,sameTs_refl,sameNs_self]
  rw[qg,if_neg (by rw[h];simp)];exact sameVs_self0 az
def sameVs_self0:∀l:List Va,eO uL l l=0
 | []=>by simp[eO]
 | x::l=>by rw[eO,if_neg (by rw[sameV_self0 x];simp)];exact sameVs_self0 l
end
def ZO(x:Va):Ij x x=true:=by unfold Ij;rw[sameV_self0];rfl
def mapM (a b:Int) (φ:List Fr->List Fr) (m:Ma):Ma:=⟨m.paid+a,m.aO+b,m.said,m.st,φ m.fr⟩
def Yy (ψ:Ma->Ma):Out->Out
 | .stuck=>.stuck
 | .no e m=>.no e (ψ m)
 | .go m=>.go (ψ m)
def RO (b:Int) (ψ:Ma->Ma) (o o':Out):Prop:=o =.stuck\/(o'=Yy ψ o/\∀m,o =.go m->m.aO+b<=1152921504606846976)\/0<b/\∃m',o' =.no 11 m'
section
variable {en:En}{n:Tr}{a b:Int}{φ:List Fr->List Fr}{m:Ma}
def YR{ψ:Ma->Ma}{c:Prop}[Decidable c]{x a y d:Out}(h:RO b ψ x a)(k:RO b ψ y d):RO b ψ (if c then x else y) (if c then a else d):=by split<;>assumption
def Tp{ψ:Ma->Ma}(o:Out):RO b ψ .stuck o:=.inl rfl
def Tg{p c:Int}{f:Va}{st:List Va}{d:List Fr}(h:c+b<=1152921504606846976):RO b (mapM a b φ) (.go ⟨p,c,f,st,d⟩) (.go ⟨p+a,c+b,f,st,φ d⟩):=.inr (.inl ⟨rfl,λm e=>by cases e;exact h⟩)
def UR{e p d:Int}{f:Va}{st:List Va}{c:List Fr} : RO b (mapM a b φ) (.no e ⟨p,d,f,st,c⟩) (.no e ⟨p+a,d+b,f,st,φ c⟩):=.inr (.inl ⟨rfl,λm e=>by cases e⟩)
def ZN{p c:Int}{e:Va}{st:List Va}{d:List Fr}(h:c+b<=1152921504606846976)(l:List Va):RO b (mapM a b φ) (oH ⟨p,c,e,st,d⟩ l) (oH ⟨p+a,c+b,e,st,φ d⟩ l):=by
 unfold oH
 repeat' (first|apply YR|exact Tp _|exact UR|exact Tg h)
def aap(hφ:∀f,φ (f::m.fr)=f::φ m.fr)(C:0<=b)(r:0<=m.aO)(d:m.aO+b<=1152921504606846976):RO b (mapM a b φ) (Qy en n m) (Qy en n (mapM a b φ m)):=by
 obtain⟨p,mi,sd,st,c⟩:=m;have k:∀(s:List Va) (x:Int) (v:Va),RO b (mapM a b φ) (if (addN mi x).2=0 then oH ⟨p,(addN mi x).1,sd,s,c⟩ [v]else .no (addN mi x).2 ⟨p,mi,sd,st,c⟩)
  (if (addN (mi+b) x).2=0 then oH ⟨p+a,(addN (mi+b) x).1,sd,s,φ c⟩ [v]else .no (addN (mi+b) x).2 ⟨p+a,mi+b,sd,st,φ c⟩):=λs x v=>by
  simp only at r d;have z:kE mi=true:=by simp[kE];omega
  have A:kE (mi+b)=true:=by simp[kE];omega
  by_cases i:kE x=true
  .have o:∀y,kE y=true->addN y x=kF (y+x):=λy w=>if_pos ⟨w,i⟩;have j:=i;simp only[kE,ki]at j;rw[o _ z,o _ A]
   by_cases e:kE (mi+x)=true
   .rw[show kF (mi+x)=(mi+x,0) from if_pos e,if_pos rfl]
    by_cases g:kE (mi+b+x)=true
    .rw[show kF (mi+b+x)=(mi+x+b,0) by rw[show mi+x+b=mi+b+x by omega];exact if_pos g,if_pos rfl];exact ZN (by simp only[kE,ki]at g;omega) [v]
    .rw[show kF (mi+b+x)=(0,11) from if_neg g];refine .inr (.inr ⟨?_,_,rfl⟩);simp only[kE,ki]at e g;omega
   .rw[show kF (mi+x)=(0,11) from if_neg e,show kF (mi+b+x)=(0,11) from if_neg (by simp only[kE,ki]at e|-;omega)];exact UR
  .have q:∀y,addN y x=(0,2):=λy=>if_neg (λh=>i h.2);rw[q,q];exact UR
 have B:∀(f:Fr) (s l:List Va),RO b (mapM a b φ) (oH ⟨p,mi,sd,s,f::c⟩ l) (oH ⟨p+a,mi+b,sd,s,f::φ c⟩ l):=λf s l=>by rw[<-hφ];exact ZN d _
 have u:∀(f:Fr) (s:List Va),RO b (mapM a b φ) (.go ⟨p,mi,sd,s,f::c⟩) (.go ⟨p+a,mi+b,sd,s,f::φ c⟩):=λf s=>by rw[<-hφ];exact Tg d
 have t:mapM a b φ ⟨p,mi,sd,st,c⟩=⟨p+a,mi+b,sd,st,φ c⟩:=rfl;rw[t];clear r hφ;simp only at d;unfold Qy
 repeat' (with_reducible first|apply YR|exact Tp _|exact ZN d _|exact Tg d|exact UR|exact B _ _ _|exact u _ _|exact k _ _ _|split|(first|unfold p9|unfold l8|unfold il|unfold gJ|unfold mq|unfold gL|unfold xm|unfold jQ|unfold iB|unfold iw|unfold jP|unfold oV|unfold Gu);try dsimp only)
def Z6{aC:Int}{k g:Ma->Out}{p d:Int}{e:Va}{st:List Va}{c:List Fr}(h:RO b (mapM a b φ) (k ⟨p+1,d,e,st,c⟩) (g ⟨p+a+1,d+b,e,st,φ c⟩)):RO b (mapM a b φ) (uH aC ⟨p,d,e,st,c⟩ k) (uH (aC+a) ⟨p+a,d+b,e,st,φ c⟩ g):=by
 unfold uH
 by_cases f:aC<=p
 .rw[if_pos f,if_pos (show aC+a<=p+a by omega)];exact UR
 .rw[if_neg f,if_neg (show ¬aC+a<=p+a by omega)];exact h
def ZR{aC:Int}{f:Fr}{c:List Fr}(t:m.fr=f::c)(v:0<=b)(q:0<=m.aO)(e:m.aO+b<=1152921504606846976)(u:f.rest=[]->φ (f::c)=f::φ c/\∀g,φ (g::c)=g::φ c)
 (c1:∀n l,f.rest=n::l->∃o d,φ (f::c)=⟨n::o,f.op,f.row,f.aside⟩::d/\φ (⟨l,f.op,f.row,f.aside⟩::c)=⟨o,f.op,f.row,f.aside⟩::d/\∀g,φ (g::⟨l,f.op,f.row,f.aside⟩::c)=g::φ (⟨l,f.op,f.row,f.aside⟩::c)) :
 RO b (mapM a b φ) (uB en aC m) (uB en (aC+a) (mapM a b φ m)):=by
 obtain⟨p,mi,sd,st,fr⟩:=m;simp only at t q e;subst t;rw[show mapM a b φ ⟨p,mi,sd,st,f::c⟩=⟨p+a,mi+b,sd,st,φ (f::c)⟩ from rfl];unfold uB;dsimp only;obtain⟨r,op,row,az⟩:=f
 cases r with
 | nil =>
  obtain⟨j,h⟩:=u rfl;rw[j];have x:∀(p:Int) (g:Fr) (s:List Va),RO b (mapM a b φ) (.go ⟨p,mi,sd,s,g::c⟩) (.go ⟨p+a,mi+b,sd,s,g::φ c⟩):=λp g s=>by rw[<-h];exact Tg e
  have w:∀(g:Fr) (s:List Va),RO b (mapM a b φ) (uH aC ⟨p,mi,sd,s,g::c⟩ .go) (uH (aC+a) ⟨p+a,mi+b,sd,s,g::φ c⟩ .go):=λg s=>by rw[<-h];refine Z6 ?_;rw[show p+a+1=p+1+a by omega];exact Tg e
  dsimp only;unfold Bz;dsimp only
  repeat' (with_reducible first|apply YR|exact Tp _|exact Tg e|exact w _ _|split)
 | cons n l =>
  obtain⟨o,d,j,h,k⟩:=c1 n l rfl;rw[j];dsimp only at h k|-;rw[<-h];unfold Iq;dsimp only
  by_cases i:n.k0=3
  .rw[if_pos i,if_pos i,<-k];exact Tg e
  .rw[if_neg i,if_neg i];refine Z6 ?_;rw[show p+a+1=p+1+a by omega];exact aap (m:=⟨p+1,mi,sd,st,⟨l,op,row,az⟩::c⟩) k v q e
end
section
variable {en:En}{S:List Ty}
def UM{aC a b:Int}(i:yH en)(q:S.length<=342)(r:0<=b):∀(N:Nat) (m:Ma),WT aC S m->m.aO+b<=1152921504606846976->fq en aC N m ≠ .stuck ->
 (fq en (aC+a) N (mapM a b id m)=Yy (mapM a b id) (fq en aC N m)/\∀m',fq en aC N m =.go m'->m'.aO+b<=1152921504606846976)\/0<b/\∃K m',fq en (aC+a) K (mapM a b id m) =.no 11 m'
 | 0,m,_,_,h=>absurd rfl h
 | N+1,m,u,s,h=>by
  cases g:m.fr with
  | nil =>
   left;have e:(mapM a b id m).fr=[]:=g;simp only[fq,g,e];exact⟨rfl,λm' e=>by cases e;exact s⟩
  | cons f p =>
   have e:(mapM a b id m).fr=f::p:=g;have d:=ZR (en:=en) (aC:=aC) (a:=a) (b:=b) (φ:=id) g r u.aO.1 s (λ_=>⟨rfl,λ_=>rfl⟩) (λn l h=>⟨l,p,by rw[<-h];rfl,rfl,λ_=>rfl⟩);have t:=Fa i u q (by rw[g];simp);simp only[fq,g,e]at h|-;rcases d with d|⟨d,w⟩|⟨v,m',d⟩
   .rw[d]at h;exact absurd rfl h
   .rw[d]
    cases j:uB en aC m with
    | stuck=>rw[j]at h;exact absurd rfl h
    | no c o=>exact .inl ⟨rfl,λm' e=>by cases e⟩
    | go o =>
     rw[j]at h t;rcases UM i q r N o t.1 (w o j) h with k|⟨x,K,m',y⟩
     .exact .inl k
     .refine .inr ⟨x,K+1,m',?_⟩;simp only[fq,e,d,j,Yy];exact y
   .refine .inr ⟨v,1,m',?_⟩;simp only[fq,e,d]
def ext (R:List Tr):List Fr->List Fr
 | []=>[⟨R,0,[],[]⟩]
 | [f]=>[⟨f.rest++R,f.op,f.row,f.aside⟩]
 | f::g::l=>f::ext R (g::l)
def Bot (l:List Fr):Prop:=∃F r,l=F++[⟨r,0,[],[]⟩]
def JY{l:List Fr}(g:Fr)(h:Bot l):Bot (g::l):=by obtain⟨F,r,rfl⟩:=h;exact⟨g::F,r,rfl⟩
def Z5{aC:Int}{m j:Ma}{f:Fr}{b:List Fr}(s:m.fr=f::b)(q:Bot (f::b))(t:¬(b=[]/\f.rest=[]))(h:uB en aC m =.go j):Bot j.fr:=by
 have c:b=[]/\(f.op=0/\f.row=[]/\f.aside=[])\/Bot b:=by
  obtain⟨F,r,e⟩:=q
  cases F with
  | nil=>simp only[qf0,xj]at e;left;rw[e.1];exact⟨e.2,rfl,rfl,rfl⟩
  | cons x F=>simp only[qd2,xj]at e;exact .inr ⟨F,r,e.2⟩
 have d:∀{x y:Ma},uH aC x .go =.go y->y.fr=x.fr:=λ{x y} h=>by
  unfold uH at h;split at h
  .cases h
  .cases h;rfl
 unfold uB at h;rw[s]at h;dsimp only at h;split at h
 .rename_i i;have a:Bot b:=c.resolve_left (λe=>t ⟨e.1,i⟩);unfold Bz at h
  repeat' split at h
  all_goals first
   | (cases h;done)
   | (rw[d h];exact JY _ a)
   | (cases h;exact a)
 .rename_i n l i;have a:Bot (⟨l,f.op,f.row,f.aside⟩::b):=by
   rcases c with⟨rfl,k,o,p⟩|a
   .rw[k,o,p];exact⟨[],l,rfl⟩
   .exact JY _ a
  unfold Iq at h;split at h
  .cases h;exact JY _ a
  .unfold uH at h;split at h
   .cases h
   .rcases (aaj h).2.2 with e|⟨g,e⟩
    .rw[e];exact a
    .rw[e];exact JY _ a
def Xw{aC:Int}(R:List Tr)(o:yH en)(y:S.length<=342):∀(N:Nat) (m m':Ma),WT aC S m->Bot m.fr->fq en aC N m =.go m'->∃K,∀k,fq en aC (K+k) (mapM 0 0 (ext R) m)=fq en aC k (mapM 0 0 (ext R) m')
 | 0,m,m',_,_,h=>by cases h
 | N+1,m,m',u,⟨F,r,hF⟩,h=>by
  cases i:m.fr with
  | nil=>rw[i]at hF;cases F<;>simp at hF
  | cons f p =>
   simp only[fq,i]at h;rw[i]at hF
   by_cases d:p=[]/\f.rest=[]
   .obtain⟨rfl,e⟩:=d;have s:f=⟨r,0,[],[]⟩:=by
     cases F with
     | nil=>simpa using hF
     | cons x F=>simp at hF
    subst s;simp only at e;subst e;have j:uB en aC m =.go { m with fr:=[] }:=by unfold uB;rw[i];rfl
    rw[j]at h
    cases N with
    | zero=>cases h
    | succ N =>
     simp only[fq,Out.go.injEq]at h;subst h;refine⟨0,λk=>?_⟩;rw[qa4]
     congr 1
     unfold mapM;rw[i];rfl
   .have e:=ZR (en:=en) (aC:=aC) (a:=0) (b:=0) (φ:=ext R) i (jf5 _) u.aO.1 (by have:=u.aO.2;omega) (λq=>by
     cases p with
     | nil=>exact absurd ⟨rfl,q⟩ d
     | cons g l=>exact⟨rfl,λ_=>rfl⟩) (λn l q=>by
     cases p with
     | nil=>exact⟨l++R,[],by simp[ext,q],rfl,λ_=>rfl⟩
     | cons g t=>exact⟨l,ext R (g::t),by simp[ext,<-q],rfl,λ_=>rfl⟩)
    have z:=Fa o u y (by rw[i];simp);rw[Int.add_zero]at e
    cases j:uB en aC m with
    | stuck=>rw[j]at h;cases h
    | no c w=>rw[j]at h;cases h
    | go w =>
     rw[j]at h z e;have B:Bot w.fr:=Z5 i ⟨F,r,hF⟩ d j;obtain⟨K,C⟩:=Xw R o y N w m' z.1 B h;rcases e with e|⟨e,_⟩|⟨A,_⟩
     .cases e
     .refine⟨K+1,λk=>?_⟩;have v:∃g t,(mapM 0 0 (ext R) m).fr=g::t:=by
       show ∃g t,ext R m.fr=g::t;rw[i];cases p with
       | nil=>exact⟨_,_,rfl⟩
       | cons x t=>exact⟨_,_,rfl⟩
      obtain⟨g,t,v⟩:=v;rw[show K+1+k=K+k+1 by omega];simp only[fq,v,e,Yy];exact C k
     .exact absurd A od
def ZW{aC:Int}{m b:Ma}(h:uB en aC m =.go b):b.said=m.said:=by
 have a:∀{x y:Ma},uH aC x .go =.go y->y.said=x.said:=λ{x y} h=>by
  unfold uH at h;split at h
  .cases h
  .cases h;rfl
 unfold uB Bz Iq at h
 repeat' split at h
 all_goals first
  | (cases h;done)
  | (rw[a h];done)
  | (cases h;rfl)
  | skip
 unfold uH at h;split at h
 .cases h
 .exact (aaj h).2.1
def ZT{aC:Int} : ∀(N:Nat) {m m':Ma},fq en aC N m =.go m'->m'.fr=[]/\m'.said=m.said
 | 0,m,m',h=>by cases h
 | N+1,m,m',h=>by
  cases a:m.fr with
  | nil=>simp only[fq,a,Out.go.injEq]at h;subst h;exact⟨a,rfl⟩
  | cons f i =>
   simp only[fq,a]at h
   cases e:uB en aC m with
   | stuck=>rw[e]at h;cases h
   | no c g=>rw[e]at h;cases h
   | go g =>
    rw[e]at h;obtain⟨b,d⟩:=ZT N h;exact⟨b,d.trans (ZW e)⟩
end
section
variable {en:En}{n k:Tr}{s x y:List Ty}{l:List Va}{f:Bool}{g:Int}
def Fp (n k:Tr):Tr:=.nd 3 0 0 ⟨#[]⟩ (n.args0++k.args0)
def run_eq(c:codeF n s =.ok f x)(d:vW en s l=true):Fy en n s l g=rsO (Xf en g (jO l n.args0)):=by obtain⟨a,b⟩:=fitsK_iff.1 d;unfold Fy;rw[if_pos ⟨a,JW.2 ⟨⟨f,x,c⟩,b⟩⟩]
def run_parts{f2:Bool}(hz:Sm l)(A:codeF n s =.ok f x)(B:codeF k x =.ok f2 y)(hs:n.size+k.size<=300)(z:(Fy en n s l g).code=0) :
 (0<=(Fy en n s l g).aO/\(Fy en n s l g).aO<=1152921504606846976/\0<=(Fy en n s l g).aC/\((Fy en n s l g).aC=0\/(Fy en n s l g).aC<=g)) /\
 (((Fy en k x (Fy en n s l g).stack (g - (Fy en n s l g).aC)).code=0->(Fy en k x (Fy en n s l g).stack (g - (Fy en n s l g).aC)).aO+(Fy en n s l g).aO<=1152921504606846976) /\
   (Fy en (Fp n k) s l g).code=(Fy en k x (Fy en n s l g).stack (g - (Fy en n s l g).aC)).code/\(Fy en (Fp n k) s l g).aC=(Fy en k x (Fy en n s l g).stack (g - (Fy en n s l g).aC)).aC+(Fy en n s l g).aC /\
   (Fy en (Fp n k) s l g).stack=(Fy en k x (Fy en n s l g).stack (g - (Fy en n s l g).aC)).stack\/0<(Fy en n s l g).aO/\(Fy en (Fp n k) s l g).code=11):=by
 cases C:vW en s l with
 | false=>rw[run_stuck (.inr C)]at z;cases z
 | true =>
  obtain⟨N,o,e,h1,H,L⟩:=Rz (g:=g) A C hz;rw[h1]at z|-
  cases o with
  | stuck=>exact H.elim
  | no c m=>exfalso;have:=H.2;simp only[rsO]at z;omega
  | go m =>
   have J:f=false:=by cases f with|false=>rfl|true=>exact absurd rfl (L rfl m)
   subst J;obtain⟨R,w,W,X,S,d6⟩:=H;obtain⟨q,hF⟩:=fitsK_iff.1 C;have t:=Md q;have aa:=(uV A).1;have ab:=(uV B).1;have I:vW en x m.st=true:=fitsK_iff.2 ⟨q,R⟩;have P:WT g x (jO l n.args0):=Gg A (λ_=>rfl) hF hz;obtain⟨K,r⟩:=Xw k.args0 t od N _ m P ⟨[],n.args0,rfl⟩ e;obtain⟨V,F⟩:=ZT N e;obtain⟨M,Q,T,h2,j,_⟩:=Rz (g:=g - m.paid) B I S;have v:WT (g - m.paid) y (jO m.st k.args0):=Gg B (λ_=>rfl) R S;have O:fq en (g - m.paid) M (jO m.st k.args0) ≠ .stuck:=by rw[T];exact uW j
   have u:=UM (a:=m.paid) (b:=m.aO) t od w.1 M _ v (by show 0+m.aO<=_;have:=w.2;omega) O;have Z:g - m.paid+m.paid=g:=od
   rw[Z,T]at u;have em:mapM 0 0 (ext k.args0) m=mapM m.paid m.aO id (jO m.st k.args0):=by obtain⟨p,mi,sd,st,fr⟩:=m;simp only at V F;subst V;have F:sd=zeroVa:=F;subst F;simp[mapM,jO,ext]
   have Y:mapM 0 0 (ext k.args0) (jO l n.args0)=jO l (Fp n k).args0:=rfl;rw[Y,em]at r;have d:=run_eq (en:=en) (g:=g) (Xx A B hs) C;have d:Fy en (Fp n k) s l g=rsO (Xf en g (jO l (Fp n k).args0)):=d;refine⟨⟨w.1,w.2,W,X⟩,?_⟩;rw[show (rsO (.go m)).aC=m.paid from rfl,show (rsO (.go m)).stack=m.st from rfl,show (rsO (.go m)).aO=m.aO from rfl,h2];rcases u with⟨D,E⟩|⟨D,G,m',E⟩
   .left;have i:Xf en g (jO l (Fp n k).args0)=Yy (mapM m.paid m.aO id) Q:=by
     rw[xA (N:=K+M) (by rw[r M,D];cases Q with|stuck=>exact absurd rfl (uW j)|no c m=>simp[Yy]|go m=>simp[Yy]),r M,D]
    rw[d,i]
    cases Q with
    | stuck=>exact absurd rfl (uW j)
    | no c U=>exact⟨λh=>by exfalso;have:=j.2;simp only[rsO]at h;omega,rfl,rfl,rfl⟩
    | go U=>exact⟨λ_=>E U rfl,rfl,rfl,rfl⟩
   .right;have i:Xf en g (jO l (Fp n k).args0) =.no 11 m':=by
     rw[xA (N:=K+G) (by rw[r G,E];simp),r G,E]
    rw[d,i];exact⟨D,rfl⟩
end
def svS (l:List Va) (j:Nat):St:=[((0,0),.of (qi l)),((0,1),.of (qi l)),((0,12),lW (vasD l).length),((0,13),.of (jA j))]
def aai{l:List Va}(r:okVs l)(w:l.length<=100000)(hz:Sm l):∀(k j:Nat),j+k=l.length->vO prog f15.ntmps ⟨gF f15,svS l j,2,[]⟩:=λk=>by
 induction k with
 | zero =>
  intro j q;exact xQ (e:=1) [(14,bA false)] [] (ob:=[mD (aQ (decide (Int.ofNat j<((vasD l).length:Int)))) (bA false)]) (al (wH vl) al0)
 | succ k v =>
  intro j q;have c:j<l.length:=od
  have t:=is_lt (a:=Int.ofNat j) (b:=((vasD l).length:Int)) vl;have p:=PT (qt c);have u:mD (lW (IntKind.i64.wrap (Int.ofNat j+1))) (jA (j+1)):=yY (zF ot oB oB);have o:=okVs_at.1 r _ (zj c);have hF:=Te o o (by have:=hz _ (zj c);omega);rw[ZO]at hF;have s:=v (j+1) od;generalize l[j]=x at *;obtain⟨g,h,f,n,i,m,d⟩:=x;exact LG [(14,bA true),(18,.one (.e (vaD (.mk g h f n i m d)) 0)),(22,.one (.e (vaD (.mk g h f n i m d)) 0)),(26,jA (j+1))] [⟨_,hF⟩] s (ob:=[mD (aQ (decide (Int.ofNat j<((vasD l).length:Int)))) (bA true),XT l j (.mk g h f n i m d),XT l j (.mk g h f n i m d),mD (lW (IntKind.i64.wrap (Int.ofNat j+1))) (jA (j+1))]) (al t (al p (al p (al u al0))))
def Z0{l:List Va}(d:okVs l)(b:l.length<=100000)(e:Sm l):Hd ⟨15,[qi l,qi l],aQ true⟩:=by have c:=aai d b e l.length 0 od;exact Ce func15 [(10,fA)] [⟨gF f15,svS l 0,2,[]⟩] (by intro x a;rw[yq]at a;subst a;exact c) [] (wI (S:=svS l 0) (q:=gF f15=gF f15) rfl (ps:=[jJ (!decide (((vasD l).length:Int)=((vasD l).length:Int))) false]) (al (eT ot) al0))
section
variable {en:En}{n:Tr}{s:List Ty}{l:List Va}{g aC more:Int}
def UT(q:Sm l):okV (Fy en n s l g).said/\(Fy en n s l g).said.size<=6000000/\okVs (Fy en n s l g).stack/\(Fy en n s l g).stack.length<=342/\Sm (Fy en n s l g).stack:=by
 have b:okV zeroVa/\zeroVa.size<=6000000:=by simp[zeroVa,okV,okVs,okTs,okNs,bD,Va.size,vsizes,tysizes,sizes,ByteArray.size,maxLen]
 have f:okVs []/\([]:List Va).length<=342/\Sm []:=⟨trivial,ot,λx h=>by simp at h⟩;rcases Z7 en n s q with h|⟨x,h⟩
 .rw[h];exact⟨b.1,b.2,f⟩
 .obtain⟨N,e,a⟩:=h g;rw[e]
  cases d:fq en g N (jO l n.args0)with
  | stuck=>rw[d]at a;exact a.elim
  | go m =>
   rw[d]at a;obtain⟨i,_,_,_,j,k⟩:=a;exact⟨b.1,b.2,T9 i,k,j⟩
  | no c m =>
   rw[d]at a;refine⟨?_,?_,f⟩<;>simp only[rsO]<;>split
   .rename_i p;rcases a.2 with⟨_,_,_,T,o⟩|h|h|h
    .exact fit_ok _ (qv _) o
    all_goals omega
   .exact b.1
   .rename_i p;rcases a.2 with⟨_,_,h,_⟩|h|h|h
    .exact h
    all_goals omega
   .exact b.2
end
def aag{ok:Nat->Prop}{w:World}{base n:Nat}{q:TypeId}{v:Value}{us:List Value}{es:List (List D)}(C:w.ownsRow base q n v es.length us)(y:∀b,base<=b->ok b)(B:es.length<=maxLen)(m:n≠0)(A:∀(i:Nat) (r:List D),es[i]?=some r->r.length=n)(E:∀(i:Nat) (r:List D) (j:Nat) (x:D),es[i]?=some r->r[j]?=some x->∃u,us[i*n+j]?=some u/\fI ok w x u):fI ok w (.s n es) v:=by
 obtain⟨_,⟨rfl,t⟩|⟨g,o,d,rfl,z,a,c,_,_,h⟩⟩:=C
 .obtain rfl:es=[]:=ju t;exact gG (PI _ _ (.n0)) m
 .refine .s (λi j=>(us[i*n+j]?).getD undef) c B A (λi r j x k l=>?_) (λi r j x k l=>?_) (λe=>absurd e m)<;>obtain⟨u,f,p⟩:=E i r j x k l<;>rw[f]
  .refine⟨g,0,rfl,y g z,?_⟩;rw[<-h]at f;have : d.toList[i*n+j]?=some u:=vJ f;simp only[World.cell?,a,qa4];simpa using this
  .exact p
def Z4{t:Tr} : ∀x∈ndD t,(X.d x).plain=true:=by obtain⟨k,n,p,s,l⟩:=t;simp[ndD,X.plain]
def ZQ{ok:Nat->Prop}{w:World}{l:List Tr}{v:Value}(h:fI ok w (.s 5 (ndsD l)) v):∃us:List Value,us.length=l.length*5/\gZ w v l.length us/\(∀u∈us,u.oneCell'=true)/\∀(i:Nat) (r:List D) (j:Nat) (x:D),(ndsD l)[i]?=some r->r[j]?=some x->∃u,us[i*5+j]?=some u/\fI ok w x u:=by
 have e:(ndsD l).length=l.length:=by simp[ndsD_map]
 obtain⟨a,c,U,rfl,_⟩:=fH h;obtain⟨_,p,us,f,y,k⟩:=LZ h ov;rw[e]at f;refine⟨us,f,?_,λu B=>?_,k⟩
 .cases a with
  | none =>
   have hz:=p rfl;rw[hz]at e;exact .inl ⟨c,by rw[hz];rfl,by simpa using e.symm,ju (by rw[f,<-e];rfl)⟩
  | some g=>exact .inr ⟨g,c,by rw[e],y g rfl⟩
 .obtain⟨q,A,rfl⟩:=ye B;have z:q / 5<(ndsD l).length:=by omega
  have n:(ndsD l)[q / 5]=ndD l[q / 5]:=by simp[ndsD_map]
  have m:q % 5<(ndsD l)[q / 5].length:=by rw[n,LJ];omega
  obtain⟨u,b,o⟩:=k (q / 5) _ (q % 5) _ (qt z) (qt m);rw[Nat.div_add_mod' q 5,qt A]at b;simp only[qk]at b;rw[b];exact jE (β:=λ_=>none) (x:=.d _) o (Z4 (t:=l[q / 5]) _ (by rw[<-n];exact zj m))
def aaq(l:List Tr):Hd ⟨34,[CW l],.of (ndA (.nd 3 0 0 ⟨#[]⟩ l))⟩:=aF func34 []
def aak{n m:Tr}(zn:n.args0.length<=2000000)(zm:m.args0.length<=2000000):Hd ⟨18,[ndA n,ndA m],.of (ndA (Fp n m))⟩:=⟨bK func18,λok W vs h=>by
 obtain⟨nk,nn,np,ns,c⟩:=n;obtain⟨mk,mn,mp,ms,k⟩:=m;simp only[Tr.args0]at zn zm
 match vs,h with
 | [u,v],⟨⟨J,eu,hu⟩,⟨ws,ev,hv⟩,_⟩ =>
  subst eu ev
  match J,hu,ws,hv with
  | [u0,u1,u2,u3,u4],⟨r0,r1,r2,r3,r4,_⟩,[v0,v1,v2,v3,v4],⟨s0,s1,s2,s3,s4,_⟩ =>
  obtain rfl:=bW r0;obtain rfl:=bW r1;obtain rfl:=bW r2;obtain rfl:=bW r3;obtain rfl:=bW s0;obtain rfl:=bW s1;obtain rfl:=bW s2;obtain rfl:=bW s3;obtain⟨na,nc,_,rfl,_⟩:=fH r4;obtain⟨ma,mc,_,rfl,_⟩:=fH s4;have eN:∀l:List Tr,(ndsD l).length=l.length:=λl=>by simp[ndsD_map]
  rw[eN]at r4 s4|-;rw[eN];obtain⟨V,hA3,P,T⟩:=XJ W (.cells #[.i nk,.i nn,.i np,.string ns,.slice na c.length nc] 26) (.cells #[.i mk,.i mn,.i mp,.string ms,.slice ma k.length mc] 26) (.cells #[.i 0,.i 0,.i 0,.string ⟨#[]⟩,.n0] 26);have xa:=(bE hA3).2.2.2.2;have xb:=(bE P).2.2.2.2;have HR:=jh T;have HG:=jh V;have ae:Hid (fI ok W (.s 5 (ndsD c)) (.slice na c.length nc)):=r4;have ad:Hid (fI ok W (.s 5 (ndsD k)) (.slice ma k.length mc)):=s4;have EN:=jh eN;clear eN r0 r1 r2 r3 s0 s1 s2 s3 r4 s4 hA3 P T V;go_enter func18,ntmps18;go_wp2_with fail;generalize ((W.alloc _).alloc _).alloc _=a at *;have ya:=λ(H:World) (h:a.grownBy H (some (W.heap.size+1+1)))=>aI ((qn (h.block _ (kd a _ xa) US)).trans xa) ((qn (h.block _ (kd a _ xb) US)).trans xb);refine qh6 (S:=λH=>a.grownBy H (some (W.heap.size+1+1))) oA (fK (bM _ _)) (λC=>?_);refine fG 0 5 ?_;refine fG 1 6 ?_;refine fG 3 8 ?_;refine fG 4 9 ?_;have D:a.grownBy a.drew none:=fK (bM _ _);have aj:W.heap.size+1+1<a.heap.size:=(qq.1 HR).1;have kp:∀{H:World},a.drew.grownBy H none->zH ok W (λb=>ok b/\b<W.heap.size\/a.heap.size<=b) H:=λ{H} h=>⟨(aJ (aJ HG D) h).size,λb B g=>⟨.inl ⟨g,B⟩,λo=>qn ((aJ (aJ HG D) h).block b B ot)⟩⟩;have Q:=(ae.out.keep (kp (bM _ _)));have R:=(ad.out.keep (kp (bM _ _)));obtain⟨J,a1,a2,a3,a4⟩:=ZQ Q;obtain⟨ws,b1,b2,b3,b4⟩:=ZQ R;refine kA (rs:=[2]) oA ot ?_;refine jx rfl (λK q=>?_) kj;refine yx rfl (.const (.n0)) (.tmp 6) 24 rfl a.drew.heap.size 26 underlying24 JD rfl ov _ 0 [] rfl (qa2 _ _ _ _) _ c.length J rfl a1 a2 a3 oT od (qv _) ?_;intro v5 w5 F X _;have p:a.drew.grownBy w5 none:=dX (bM _ _) (qa2 _ _ 0 0) (qv _) X.1;refine q _ _ (kL (aJ D p)) (λ_=>?_);clear q K;refine kA (rs:=[5]) oA ot ?_;refine jx rfl (λK q=>?_) kj;refine yx rfl (.tmp 7) (.tmp 9) 24 rfl a.drew.heap.size 26 underlying24 JD rfl ov _ (0+c.length) ([]++J) rfl F _ k.length ws rfl b1 (b2.grow p) b3 oT od p.size ?_;intro v6 w6 aa Y _;have f:a.drew.grownBy w6 none:=dX p F (qv _) Y.1;have hX:fI (λb=>ok b/\b<W.heap.size\/a.heap.size<=b) w6 (.s 5 (ndsD (c++k))) v6:=by
   have e:ndsD (c++k)=ndsD c++ndsD k:=by simp[ndsD_map]
   have kq:zH (λb=>ok b/\b<W.heap.size\/a.heap.size<=b) a.drew (λb=>ok b/\b<W.heap.size\/a.heap.size<=b) w6:=⟨f.size,λb B g=>⟨g,λo=>qn (f.block b B ot)⟩⟩;refine aag (base:=a.drew.heap.size) (us:=[]++J++ws) (by rw[show (ndsD (c++k)).length=0+c.length+k.length by simp[ndsD_map]];exact aa) (λb B=>.inr B) (by simp[ndsD_map];unfold maxLen;omega) ov (λi r hr=>?_) (λi r j x O h2=>?_)
   .rw[ndsD_map,qb6,km]at hr;obtain⟨t,_,rfl⟩:=hr;exact LJ t
   .rw[e]at O;rw[qf0]
    by_cases hi:i<(ndsD c).length
    .rw[jt hi]at O;obtain⟨u,N,e2⟩:=a4 i r j x O h2;exact⟨u,by rw[jt (jj.1 N).1];exact N,e2.keep kq⟩
    .rw[js od]at O;obtain⟨u,N,e2⟩:=b4 _ r j x O h2;refine⟨u,?_,e2.keep kq⟩;have hq:(ndsD c).length=c.length:=by simp[ndsD_map]
     rw[hq]at N hi;rw[js od,a1,show i*5+j - c.length*5=(i - c.length)*5+j by omega];exact N
  obtain⟨ak,an,_,e6,_⟩:=fH hX;subst e6;refine q _ _ (kL (aJ D f)) (λ_=>?_);clear q K;refine kA (rs:=[6]) oA ot ?_;refine jx rfl (λK q=>?_) kj;go_simp;go_at_call 34;refine ((aaq (c++k)).runN rfl _ w6 [_] ⟨hX,trivial⟩).mono ?_;rintro e w7 ⟨Z,v,rfl,⟨ts,rfl,hq⟩⟩
  match ts,hq with
  | [t0,t1,t2,t3,t4],⟨q0,q1,q2,q3,q4,_⟩ =>
  obtain rfl:=bW q0;obtain rfl:=bW q1;obtain rfl:=bW q2;obtain rfl:=bW q3;obtain⟨w,y,_,rfl,_⟩:=fH q4;have z:=aJ (aJ D f) Z;have U:a.heap.size<=w6.heap.size:=(aJ D f).size;refine q _ _ (kL z) (λ_=>?_);clear q K;have A:=l5 HR z;obtain⟨z0,z1,z2,z3,z4⟩:=bE A;have qf:=gV A;obtain⟨ab,L,HQ,M⟩:=JT A z q4 U;obtain⟨I,G⟩:∃I,I=(ndsD (c++k)).length:=⟨_,rfl⟩;have ah:=jh G;rw[<-G];clear z Z hX f p D C A F aa X Y q4 kp G U Q R;refine kA (rs:=[7]) oA ot ?_;refine jx rfl (λK q=>?_) kj;go_simp;refine q _ _ (fF (kL L) (dW w7 (W.heap.size+1+1) (.i 3) (.i 0) (.i 0) (.string ⟨#[]⟩) (.slice w I y))) (λ_=>?_);clear q K;refine qd6 oA ?_ _;go_wp2_with fail;change bodyPost _ _ _ _ _ (fC w7 (W.heap.size+1+1) (.i 3) (.i 0) (.i 0) (.string ⟨#[]⟩) (.slice w I y));have ai:=dH ab (.i 3) (.i 0) (.i 0) (.string ⟨#[]⟩) (.slice w I y);have E:=dW w7 (W.heap.size+1+1) (.i 3) (.i 0) (.i 0) (.string ⟨#[]⟩) (.slice w I y);generalize fC w7 (W.heap.size+1+1) _ _ _ _ _=wf at *;obtain⟨z0,z1,z2,z3,z4⟩:=bE ai;refine zv (v:=af 3 0 0 ⟨#[]⟩ w I y) (by simp[results,results18,go_sem,z0,z1,z2,z3,z4,af]) rfl ⟨aG (aJ HG L) E od,_,rfl,[_,_,_,_,_],rfl,.v _,.v _,.v _,.v _,?_,trivial⟩;rw[ah.out];refine fI.keep (d:=.s 5 (ndsD (c++k))) HQ ⟨E.size,λb B g=>⟨?_,λo=>qn (E.block b B ?_)⟩⟩
  .rcases g with (g|g)|g
   .exact .inl g.1
   .exact .inr od
   .exact .inr (by have:=M.out;omega)
  .have:=M.out;simp;rcases g with (g|g)|g<;>omega⟩
