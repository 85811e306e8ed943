import Derived.Test.YtgfdimkbfnpepaaGreatKtZaw
namespace Go.Proofs.YtgfdimkbfnpepaaGreat
set_option linter.all false
open Go.Proofs.Tryz
open Go.ChangeShapes Go.WideShapes Go.ChangeAt Go.RowKit
set_option maxRecDepth 100000
set_option maxHeartbeats 4000000
def WQ (ok:br) (w:bx) (r:Rs) (v:cg):Prop:=∃sa sc V k n a s aa al ac ta tl tc na nl nc,v =.agg #[.i r.code,.slice sa r.stack.length sc,.i k,.i n,.i a,.string s,.slice aa al ac,.slice ta tl tc,.slice na nl nc,.i r.aC,.i r.aO]/\r.stack.length<=sc/\aT ok w r.stack sa V/\aA ok w r.said (bg k n a s aa al ac ta tl tc na nl nc)
def PN (W:bx) (r:Rs) (e:Ending) (w':bx):Prop:=∃v,e =.returned v/\WQ (W.heap.size <= ·) w' r v/\cm W w' none
def Wp{ok:br}{w:bx}(e p:Int):WQ ok w ⟨e,[],zeroVa,p,0⟩ (.agg #[.i e,.n0,.i 0,.i 0,.i 0,.string ⟨#[]⟩,.n0,.n0,.n0,.i p,.i 0]) :=
 ⟨none,0,λ_=>.i 0,_,_,_,_,_,_,_,_,_,_,_,_,_,rfl,qS _,aT.nil _ _ _ _,rV _ _⟩
def I64_0:bD 0:=⟨ov,ov⟩
section
variable {ok:br}{W:bx}{en:En}{nk nn np:Int}{nz:bo}{az:aE}{na sa la:bj}{nc sc lc:Nat}{s:ao}{l:an}{aC:Int}
abbrev ma0:Array cg:=#[.i 0,.i 0,.i 0,.i 0,.i 0,.i 0,.i 0,.i 0,.i 0,.i 0,.string ⟨#[]⟩,.n0,.n0,.n0,.n0,.n0]
def JP{B mb:Nat}{k w:bx}{f:cg}{us:bk}{p:br}(t:B<=mb)(hb:w.heap[mb]?=some (.cells (yG en aC 0 0 0 0 0 ⟨#[]⟩ none 0 0 none 0 0 none 0 0 f (.n0)) 65))(q:B<=k.heap.size)
 (d:nI p k w f l.reverse us) (hg:∀b o,b<k.heap.size->b≠mb->w.cell? ⟨b,o,none⟩=k.cell? ⟨b,o,none⟩) (hO:∀b,¬p b->b≠mb) (hgas:bD aC) :
 dm B (λb=>b=mb\/f.ownBlock=some b) w mb en aC ⟨0,0,zeroVa,l,[]⟩:=by
 refine⟨_,_,_,_,_,_,_,_,_,_,_,_,_,f,_,us,[],hb,rV _ _,⟨?_,d.len,λi x u y v=>?_,λg e=>.inr e⟩,qg1 _ _ _ _,trivial,?_,⟨.inl rfl,λg e=>by cases e⟩,?_,?_,I64_0,I64_0,hgas⟩
 .have⟨m,a⟩:=d.own;exact⟨m,a.imp id λ⟨g,c,j,e,s,r⟩=>⟨g,c,j,e,km q s,r⟩⟩
 .have m:=(d.lies i x u y v).ae (ok':=λb=>¬(b=mb\/f.ownBlock=some b)/\b≠mb) λb hb h=>⟨λa=>by
   rcases a with a|a
   .exact hO b h a
   .have:=(zp d.own b a).1;omega,hO b h⟩
  exact (m.same λb o hb n=>hg b o n hb.2).ae λb _ h=>h.1
 .cases f.ownBlock<;>simp[keptBs]
 .rintro b (rfl|e)
  .exact t
  .exact km q (zp d.own b e).1
 .rintro b (rfl|e)
  .exact⟨_,_,hb⟩
  .rcases d.own.2 with⟨rfl,_⟩|⟨g,c,j,rfl,_,h,_⟩
   .cases e
   .simp only[Value.ownBlock,qk]at e;subst e;exact⟨_,_,h⟩
def Fx{o:Oper}{a:Act}{w:bx}{K:Act->bx->Prop}{Q:Exit->Act->bx->Prop}{b:Nat}{cs z:Array cg}{t:TypeId}(T:TypeId)(x y:Operand)(d:o.op =.store T x y)(e:a.eval x =.po b)(f:a.eval y =.agg cs)(hb:w.heap[b]?=some (.cells z t (0,0)))(g:z.size=cs.size)(hi:(prog.info? T).map (·.size)=some cs.size)(c:cs.all (·.oneCell'))
 (h:K (a.put o.dst undef) (w.setRow b cs)):o.wp prog a w K Q:=wp_store_row T x y d b cs e f t z hb hi g c h
def nZ{w:bx}{b:Nat}{z cs:Array cg}{t:TypeId}(hb:w.heap[b]?=some (.cells z t (0,0))):(w.setRow b cs).heap[b]?=some (.cells cs t (0,0)):=by simp[World.setRow,ux,hb]
def mQ(w:bx)(b:Nat)(cs:Array cg):cm w (w.setRow b cs) (some b) :=
 ⟨rfl,rfl,rfl,by simp[World.setRow],λk c a=>by simp[World.setRow,ux];intro e;exact absurd (by rw[e]) a⟩
def DW{B a:Nat}{d n w i:bx}{z:Array cg}{c:cg}{us:bk}(x:B<=d.heap.size)(p:cm d n none)(q:cm n w none)(j:cm w i none)(s:d.heap.size<=a)(hb:i.heap[a]?=some (.cells z 65 (0,0)))(f:nI (d.heap.size <= ·) n w c l.reverse us)(v:c.ownBlock≠some a)(k:bD aC) :
 ∃O,dm B O (i.setRow a (yG en aC 0 0 0 0 0 ⟨#[]⟩ none 0 0 none 0 0 none 0 0 c (.n0))) a en aC ⟨0,0,zeroVa,l,[]⟩/\cm d (i.setRow a (yG en aC 0 0 0 0 0 ⟨#[]⟩ none 0 0 none 0 0 none 0 0 c (.n0))) none/\∀b,O b->d.heap.size<=b:=by
 have u:=mQ i a (yG en aC 0 0 0 0 0 ⟨#[]⟩ none 0 0 none 0 0 none 0 0 c (.n0));have r:nI (d.heap.size <= ·) n (i.setRow a (yG en aC 0 0 0 0 0 ⟨#[]⟩ none 0 0 none 0 0 none 0 0 c (.n0))) c l.reverse us:=⟨iT f.own λg e=>(u.block g (ki (zp f.own g e).2 j.size) (λy=>v (e.trans y))).trans (j.block g (zp f.own g e).2 ot),f.len,f.lies⟩;refine⟨_,JP (km x s) (nZ hb) (km x p.size) r (λb o m t=>?_) (λb h e=>h od) k,aG (aJ (aJ p q) j) u s,?_⟩
 .exact qt ((u.block b (ki m (aJ q j).size) (λe=>by cases e;exact t rfl)).trans ((aJ q j).block b m ot))
 .rintro b (rfl|e)
  .exact s
  .exact km p.size (zp f.own b e).1
def PS(w:bx)(x y z:Obj):cm w (((w.alloc x).alloc y).alloc z) none/\(((w.alloc x).alloc y).alloc z).heap[w.heap.size]?=some x/\(((w.alloc x).alloc y).alloc z).heap[w.heap.size+1]?=some y/\(((w.alloc x).alloc y).alloc z).heap[w.heap.size+1+1]?=some z:=by
 refine⟨aJ (aJ (aK _) (aK _)) (aK _),l5 (CJ _ _ _) (aK _),?_,?_⟩
 .have h:=CJ (w.alloc x) y z;rw[yv]at h;exact h
 .have h:=jj ((w.alloc x).alloc y) z;rw[yv,yv]at h;exact h
def sH{o:Oper}{a:Act}{w:bx}{Q:Exit->Act->bx->Prop}{b:Nat}{cs z:Array cg}{t:TypeId}{d:Array Oper}{c:List Oper}(e:o.guard=none)(T:TypeId)(x y:Operand)(i:o.op =.store T x y)(j:a.eval x =.po b)(k:a.eval y =.agg cs)(hb:w.heap[b]?=some (.cells z t (0,0)))(l:z.size=cs.size)(hi:(prog.info? T).map (·.size)=some cs.size)(f:cs.all (·.oneCell'))
 (h:wpList prog d Q c (a.put o.dst undef) (w.setRow b cs)):wpList prog d Q (o::c) a w:=wpList_plain e λ_ g=>Fx T x y i j k hb l hi f (g _ _ h)
abbrev rs0:Array cg:=#[.i 0,.n0,.i 0,.i 0,.i 0,.string ⟨#[]⟩,.n0,.n0,.n0,.i 0,.i 0]
def Ca(w:bx)(cs:Array cg):cm w ((w.alloc (.cells rs0 38)).setRow w.heap.size cs) none/\((w.alloc (.cells rs0 38)).setRow w.heap.size cs).heap[w.heap.size]?=some (.cells cs 38) :=
 ⟨aG (aK _) (mQ _ _ _) (qS _),nZ (jj _ _)⟩
def zN{w:bx}{g:Nat}{T:TypeId}{x0 b c d e f i j k l a:cg}(h:w.heap[g]?=some (.cells #[x0,b,c,d,e,f,i,j,k,l,a] T (0,0))) :
 w.cell? ⟨g,0,none⟩=some x0/\w.cell? ⟨g,1,none⟩=some b/\w.cell? ⟨g,2,none⟩=some c/\w.cell? ⟨g,3,none⟩=some d/\w.cell? ⟨g,4,none⟩=some e/\w.cell? ⟨g,5,none⟩=some f/\w.cell? ⟨g,6,none⟩=some i/\w.cell? ⟨g,7,none⟩=some j/\w.cell? ⟨g,8,none⟩=some k/\w.cell? ⟨g,9,none⟩=some l/\w.cell? ⟨g,10,none⟩=some a/\∀o,w.frozen? ⟨g,o,none⟩=false:=by
 simp[World.cell?,World.frozen?,h]
def Eu{k:Nat} : ∀{l:an},(∀x∈l,x.size<=k)->vsizes l<=l.length*k
 | [],_=>by simp[vsizes]
 | x::l,h=>by have b:=h x ot;have c:=Eu (l:=l) λy a=>h y (by simp[a]);simp only[vsizes,jt,ja1];omega
def Xz{O:br}{h b:bx}{a:bj}{c:Nat}{st:an}{us:bk}(d:nI O h b (.slice a st.length c) st us)(k:cm h b none)(g:Sm st)(o:st.length<=342):Calls prog 31 #[.slice a st.length c] b (Tu b st):=by have⟨m,n,V,e,_,j⟩:=uG (ok:=λ_=>True) d.own d.len (λi x u f l=>((d.lies i x u f l).ae λ_ _ _=>trivial).same (ni k)) (λ_ _=>trivial) On;simp only[kl]at e;obtain⟨rfl,_,rfl⟩:=e;exact zT j (by have:=Eu g;omega) (λx f=>by have:=g x f;omega) od
def Wq{w:bx}{g:Nat}{T:TypeId}{x0 l b c d e f i j k a:cg}(h:w.heap[g]?=some (.cells #[x0,l,b,c,d,e,f,i,j,k,a] T (0,0)))(v:cg) :
 (w.setCell ⟨g,1,none⟩ v).heap[g]?=some (.cells #[x0,v,b,c,d,e,f,i,j,k,a] T (0,0))/\(w.setCell ⟨g,10,none⟩ v).heap[g]?=some (.cells #[x0,l,b,c,d,e,f,i,j,k,v] T (0,0)):=by
 simp[World.setCell,ux,h]
def Ny{W wc c:bx}{O d:br}(h:cm W wc none)(hF:dB O wc d c)(f:∀b,O b->W.heap.size<=b):cm W c none :=
 ⟨hF.os.trans h.os,hF.tape.trans h.tape,hF.output.trans h.output,km h.size hF.size,λb a g=>(hF.block b (ki a h.size) (λe=>by have:=f b e;omega)).trans (h.block b a g)⟩
def WW{c f:Int}{w:bx}{b:Nat}{T:TypeId}{k n a:Int}{s:bo}{d:bj}{al ac:Nat}{ta:bj}{tl tc:Nat}{na:bj}{e nc:Nat}{j g:cg}(h:w.heap[b]?=some (.cells (yG en aC c f k n a s d al ac ta tl tc na e nc j g) T)) :
 w.cell? ⟨b,7,none⟩=some (.i k)/\w.cell? ⟨b,8,none⟩=some (.i n)/\w.cell? ⟨b,9,none⟩=some (.i a)/\w.cell? ⟨b,10,none⟩=some (.string s)/\w.cell? ⟨b,11,none⟩=some (.slice d al ac)/\w.cell? ⟨b,12,none⟩=some (.slice ta tl tc)/\w.cell? ⟨b,13,none⟩=some (.slice na e nc):=by
 simp[World.cell?,h,yG]
def XD{w:bx}{g:Nat}{T:TypeId}{x0 k m n o p q r s l a:cg}(h:w.heap[g]?=some (.cells #[x0,k,m,n,o,p,q,r,s,l,a] T (0,0)))(b c d e f i j:cg) :
 (((((((w.setCell ⟨g,2,none⟩ b).setCell ⟨g,3,none⟩ c).setCell ⟨g,4,none⟩ d).setCell ⟨g,5,none⟩ e).setCell ⟨g,6,none⟩ f).setCell ⟨g,7,none⟩ i).setCell ⟨g,8,none⟩ j).heap[g]?=some (.cells #[x0,k,b,c,d,e,f,i,j,l,a] T (0,0)) /\
 cm w (((((((w.setCell ⟨g,2,none⟩ b).setCell ⟨g,3,none⟩ c).setCell ⟨g,4,none⟩ d).setCell ⟨g,5,none⟩ e).setCell ⟨g,6,none⟩ f).setCell ⟨g,7,none⟩ i).setCell ⟨g,8,none⟩ j) (some g):=by
 refine⟨by simp[World.setCell,ux,h],?_⟩;exact dY (dY (dY (dY (dY (dY (dY (bM _ _) _ _ _) _ _ _) _ _ _) _ _ _) _ _ _) _ _ _) _ _ _
def RA{z:ao}{N:Nat}{VR:bt}(cb:Ah en)(cy:yH en)(ca:cK ok W az na VR)(cC:az.length<=nc)(hZ:z.length<=342)(cz:aC<=50000)(hw:WT aC z (jO l az))(hD:Done aC z (fq en aC N (jO l az)))(hN:∀X,cm W X none->Calls prog 27 #[af nk nn np nz na az.length nc,.slice sa s.length sc,.slice la l.length lc] X λe w'=>e =.returned (.bool true)/\cm X w' none)
 (hT:∀X,cm W X none->∀O:br,(∀b,O b->W.heap.size<=b)->Calls prog 28 #[.slice la l.length lc] X (IV O X l.reverse)) (hgas:bD aC):Calls prog 10 #[.agg #[.i en.self,.i en.sender,.i en.amount,.i en.balance],af nk nn np nz na az.length nc,.slice sa s.length sc,.slice la l.length lc,.i aC] W (PN W (rsO (fq en aC N (jO l az)))):=by
 have HS:=jh (DD en);rw[cb]at HS;have⟨HN,HT,cn,cr⟩:=JT hN hT hgas ca;have ad:Hid (∀O5 w5 mb,dm W.heap.size O5 w5 mb en aC (jO l az)->Calls prog 30 #[.po mb] w5 (jK W.heap.size O5 w5 mb en aC (fq en aC N (jO l az)))):=λO5 w5 mb hM=>VF cy hw hZ cz hM N (uW hD);have HD:=jh hD;have cq:=jh cC;clear cb hN hT hgas ca hw hZ cy cz hD cC;unfold af at HN|-;generalize hQ:PN W (rsO (fq en aC N (jO l az)))=Q;have HQ:=jh hQ;clear hQ;have P:=jh (PS W (.cells #[.i en.self,.i en.sender,.i en.amount,.i en.balance] 23) (.cells #[.i nk,.i nn,.i np,.string nz,.slice na az.length nc] 26) (.cells #[.i 0,.n0,.i 0,.i 0,.i 0,.string ⟨#[]⟩,.n0,.n0,.n0,.i 0,.i 0] 38));go_enter func10,ntmps10
 go_upto_region 1 with (fail)
 generalize ((W.alloc _).alloc _).alloc _=W3 at *;have cu:cm W3 W3 none:=bM _ _;have K5:=λ(w':bx) (h:cm W3 w' none)=>And.intro (WY (l5 P.2.1 h)) (bE (l5 P.2.2.1 h))
 go_upto_region 3 with (first
  | (go_at_call 26;(with_reducible refine (HS.out _).mono ?_);rintro e H ⟨rfl,ah⟩;have cf:=aJ cu ah;clear ah)
  | (go_at_call 27;(with_reducible refine (HN.out _ (aJ P.out.1 cf)).mono ?_);rintro e H ⟨rfl,ah⟩;have d:=aJ cf ah;clear ah))
 go_cut [11] (λpv wx=>∃mb O,pv =.po mb/\dm W.heap.size O wx mb en aC ⟨0,0,zeroVa,l,[]⟩/\cm H wx none/\∀b,O b->H.heap.size<=b)
 case first =>
  have cw:W.heap.size<=H.heap.size:=km P.out.1.size d.size;have hd:cm H H.drew none:=fK (bM _ _);refine wR (cs:=[((4:Nat),λw:bx=>cm W3 w none)]) 7 oA oA ?_;refine ry (i:=0) (k:=4) (some 25) (bL (.inr (fK d)) fP) (.head _) (Or.inl ⟨by rfl,λw hw=>by have hk:=K5 w hw;go_simp;with_reducible rfl⟩) ?_ (hi:=rfl);simp only[Act.put,zc,xF,xj];refine dN (i:=1) (some 26) (bL (.inr (fK d)) fP) ?_;simp only[Act.put,zc,xF,xj];refine dN (i:=2) (some 27) (bL (.inr (fK d)) fP) ?_;simp only[Act.put,zc,xF,xj];refine gU (rs:=[3,5]) oA rfl (iE.cons rfl (λK c=>?_) (iE.cons rfl (λK c=>?_) iE.nil))
  .go_simp;refine (HT H.drew (aJ (aJ P.1 d) hd) (H.heap.size <= ·) (λb S=>od)).mono ?_;rintro e X ⟨sv,us,rfl,J,hg⟩;obtain⟨T,U,rfl,cM⟩:=J.slice;rw[qa0]at J;have cv:cm W3 X none:=aJ (aJ d hd) hg;have ck:(Value.slice T l.length U).ownBlock≠some X.heap.size:=λe=>by have:=(zp J.own _ e).2;omega
   have A:=jj X (.cells ma0 65);have⟨O,hM,j,hO⟩:=DW (en:=en) cw hd hg (aK _) (km hd.size hg.size) A J ck cn;refine c _ _ (bL (.inr cv) fP) ?_;clear c K;refine gU (rs:=[4,5]) oA rfl (iE.cons rfl (λK c=>?_) (iE.cons rfl (λK c=>?_) iE.nil))
   .go_simp;refine c _ _ (bL (.inl rfl) fP) ?_;clear c K;refine gU (rs:=[5]) oA rfl (iE.cons rfl (λK c=>?_) iE.nil);go_simp;refine c _ _ (bL (.inl rfl) fP) ?_;clear c K;refine gU (rs:=[6]) oA rfl (iE.cons rfl (λK c=>?_) iE.nil);rw[if_pos (show Region.wanted _ _ from rfl)];refine Fx 65 _ _ rfl rfl rfl A rfl oA oA ?_;refine c _ _ (bL (.inl rfl) fP) ?_;clear c K;refine uP oA ?_ _;go_wp2_with fail;go_meet;exact⟨_,O,rfl,hM,j,hO⟩
   .go_simp;refine c _ _ (bL (.inr (aJ cv (aK _))) fP) ?_;clear c K;refine gU (rs:=[4]) oA rfl (iE.cons rfl (λK c=>?_) iE.nil);go_simp;refine c _ _ (bL (.inl rfl) fP) ?_;clear c K;refine gU (rs:=[6]) oA rfl (iE.cons rfl (λK c=>?_) iE.nil);rw[if_pos (show Region.wanted _ _ from rfl)];refine Fx 65 _ _ rfl rfl rfl A rfl oA oA ?_;refine c _ _ (bL (.inl rfl) fP) ?_;clear c K;refine uP oA ?_ _;go_wp2_with fail;go_meet;exact⟨_,O,rfl,hM,j,hO⟩
  .go_simp;refine c _ _ (bL (.inr (aJ (fK d) (aK _))) fP) ?_;clear c K;refine gU (rs:=[3]) oA rfl (iE.cons rfl (λK c=>?_) iE.nil);go_simp;have ch:cm H (H.drew.alloc (.cells ma0 65)) none:=aJ hd (aK _);have cA:=jj H.drew (.cells ma0 65);refine (HT (H.drew.alloc (.cells ma0 65)) (aJ (aJ P.1 d) ch) (H.heap.size <= ·) (λb S=>od)).mono ?_;rintro e X ⟨sv,us,rfl,J,hg⟩;obtain⟨T,U,rfl,cM⟩:=J.slice;rw[qa0]at J;have A:=l5 cA hg;have ck:(Value.slice T l.length U).ownBlock≠some H.drew.heap.size:=λe=>by have:=(zp J.own _ e).1;rw[yv]at this;omega
   have⟨O,hM,j,hO⟩:=DW (en:=en) cw ch hg (bM _ _) hd.size A J ck cn;refine c _ _ (bL (.inr (aJ (aJ d ch) hg)) fP) ?_;clear c K;refine gU (rs:=[4]) oA rfl (iE.cons rfl (λK c=>?_) iE.nil);go_simp;refine c _ _ (bL (.inl rfl) fP) ?_;clear c K;refine gU (rs:=[6]) oA rfl (iE.cons rfl (λK c=>?_) iE.nil);rw[if_pos (show Region.wanted _ _ from rfl)];refine Fx 65 _ _ rfl rfl rfl A rfl oA oA ?_;refine c _ _ (bL (.inl rfl) fP) ?_;clear c K;refine uP oA ?_ _;go_wp2_with fail;go_meet;exact⟨_,O,rfl,hM,j,hO⟩
 case rest =>
  obtain⟨mb,O,rfl,hM,j,hO⟩:=hcut;have hk:=K5 wc (aJ d j);have cd:Hid (Calls prog 29 #[.po mb,.agg #[.slice na az.length nc,.i 0,.n0,.n0]] wc (K8 W.heap.size O wc mb en aC (jO l az))):=Dp (f:=⟨az,0,[],[]⟩) (VW:=λ_=>.i 0) (VA:=λ_=>.i 0) hM (zE _) ⟨show (0:Int)≠67 by decide,I64_0⟩ ((cr.ae (ok':=λb=>¬O b) λb S _ h=>by have:=hO b h;have:=d.size;have:=P.out.1.size;omega).same (λb o _ G=>qt ((aJ (aJ P.1 d) j).block b G ot))) (cK.nil _ _ _ _) (aT.nil _ _ _ _) ⟨cq,qS _,qS _⟩
  have HO:=jh hO;have cF:Hid (cm W wc none):=aJ (aJ P.1 d) j;have I:=jh (l5 P.2.2.2 (aJ d j));have cp:Hid (W.heap.size+1+1<H.heap.size):=ki (qq.1 P.2.2.2).1 d.size;have cc:Hid (∀O6 g wf,dB O wc O6 g->cm g wf none->cm W wf none/\wf.heap[W.heap.size+1+1]?=some (.cells rs0 38)):=λO6 g wf hF hg=>by refine⟨aJ (Ny cF hF λb S=>by have:=HO.out b S;have:=cp.out;omega) hg,l5 ((hF.block _ (qq.1 I).1 λh=>?_).trans I) hg⟩;have:=HO.out _ h;have:=cp.out;omega
  clear hM j hO K5 P HT HN HS cu cf d cr cq
  cases ho:fq en aC N (jO l az)with
  | stuck=>exact absurd ho (uW HD)
  | no er m =>
   rw[ho]at ad HD HQ;clear ho;have hE:=HD.out.2
   by_cases ba:er=10
   .subst ba;have hz:=(hE.resolve_right od).2.2
    go_upto_region 7 with (first
     | (go_at_call 29;(with_reducible refine cd.out.mono ?_);rintro e w5 ⟨rfl,O5,r,u⟩;have Y:=jh r;have ab:=jh u;clear r u)
     | (go_at_call 30;(with_reducible refine (ad.out _ _ _ ab.out).mono ?_);rintro e g ⟨O6,t,_,rfl,m',e1,e2,k,n,a,s',aa,al,ac,T,tl,U,B,nl,C,sv,fv,us,fs,R⟩;have z6:=iM R.blk;rw[e1]at z6;have HL:=Ca g #[.i 10,.n0,.i 0,.i 0,.i 0,.string ⟨#[]⟩,.n0,.n0,.n0,.i m.paid,.i 0];have D:=jh (Y.out.trans t);have H6:=jh R;have ct:=jh R.said;rw[e2]at ct;clear t R e1 e2)
     | (refine sH rfl 38 _ _ rfl rfl rfl (jj _ _) rfl oA oA ?_))
    simp only[rs0]at HL;generalize World.setRow _ _ _=M at *;have z7:=zN HL.2;have z8:=WW (l5 H6.blk HL.1);have A:=jj M (.cells #[.i k,.i n,.i a,.string s',.slice aa al ac,.slice T tl U,.slice B nl C] 36);have cI:Hid (Calls prog 31 #[.o (M.heap.size) 1 1] (M.alloc (.cells #[.i k,.i n,.i a,.string s',.slice aa al ac,.slice T tl U,.slice B nl C] 36)) (Tu (M.alloc (.cells #[.i k,.i n,.i a,.string s',.slice aa al ac,.slice T tl U,.slice B nl C] 36)) [m.said])):=by
     have hL:=((ct.ae (ok':=λ_=>True) λ_ _ _=>trivial).same (ni (aJ HL.1 (aK (.cells #[.i k,.i n,.i a,.string s',.slice aa al ac,.slice T tl U,.slice B nl C] 36)))));refine zT (V:=λ_=>bg k n a s' aa al ac T tl U B nl C) (a:=some ⟨M.heap.size,0,none⟩) (l:=[m.said]) (ok:=λ_=>True) ⟨by unfold maxLen;simp,λi hi=>?_,λi hi=>?_⟩ (by simp[vsizes];omega) (λx hx=>by simp at hx;subst hx;omega) ot
     .obtain rfl:i=0:=by simpa using hi
      exact⟨_,_,rfl,trivial,k,n,a,s',aa,al,ac,T,tl,U,B,nl,C,rfl,ot⟩
     .obtain rfl:i=0:=by simpa using hi
      exact hL
    have E:=jh HL;clear HL z6 hk hE A;simp only[Act.put]
    go_upto_region 12 with ((go_at_call 31;(refine cI.mono ?_);rintro e w9 ⟨a3,c3,V3,rfl,bb,L,ai⟩;obtain⟨b,o,rfl,S,k2,n2,a2,s2,ax,oH,ay,bp,sM,bq,bh,bm,bl,hv,cx⟩:=L.2.1 0 ot;have bf:=L.2.2 0 ot;rw[hv]at bf;simp only[jc0,qd3,jc2,qa1]at cx bf bb;have aj:=aJ (aK _) ai;have F:=l5 E.2 aj;have z9:=zN F;have au:=jh (XD F (.i k2) (.i n2) (.i a2) (.string s2) (.slice ax oH ay) (.slice bp sM bq) (.slice bh bm bl));have cH:=jh bf;have cG:=jh aj;clear L ai bf aj F))
    generalize World.setCell _ _ _=wf at *;have cP:=zN au.1;have ar:cm g wf none:=aG (aJ E.1 cG) au.2 (qS _);have⟨q,y⟩:=cc.out _ _ _ D ar;have Z:Hid (Q (.returned (.agg #[.i 10,.n0,.i k2,.i n2,.i a2,.string s2,.slice ax oH ay,.slice bp sM bq,.slice bh bm bl,.i m.paid,.i 0])) (wf.setRow (W.heap.size+1+1) #[.i 10,.n0,.i k2,.i n2,.i a2,.string s2,.slice ax oH ay,.slice bp sM bq,.slice bh bm bl,.i m.paid,.i 0])):=by
     rw[<-HQ.out];have cL:W.heap.size+1+1<g.heap.size/\g.heap.size<M.heap.size:=⟨ki (qq.1 I).1 D.size,(qq.1 E.2).1⟩;refine⟨_,rfl,⟨none,0,λ_=>.i 0,k2,n2,a2,s2,ax,oH,ay,bp,sM,bq,bh,bm,bl,rfl,qS _,aT.nil _ _ _ _,?_⟩,aG q (mQ _ _ _) od⟩;refine (cH.same (λb o S G=>?_)).ae (λb _ S=>?_)
     .rw[yv]at S;exact qt (((mQ _ _ _).block b (ki G au.2.size) (λe=>by cases e;omega)).trans (au.2.block b G (λe=>by cases e;omega)))
     .rw[yv]at S;omega
    clear z9 z7 z8 cx q hz S bb;go_wp2_with (refine sH rfl 38 _ _ rfl rfl rfl y rfl oA oA ?_);exact yb (results_cell_row results10 _ _ (W.heap.size+1+1) _ _ _ _ rfl (nZ y) underlying38 rfl oA) rfl Z
   .have b0:(er==0)=false:=by simp;omega
    have cQ:(er==10)=false:=by simpa using ba
    go_upto_region 7 with (first
     | (go_at_call 29;(with_reducible refine cd.out.mono ?_);rintro e w5 ⟨rfl,O5,r,u⟩;have Y:=jh r;have ab:=jh u;clear r u)
     | (go_at_call 30;(with_reducible refine (ad.out _ _ _ ab.out).mono ?_);rintro e g ⟨O6,t,_,rfl,m',e1,e2,k,n,a,s',aa,al,ac,T,tl,U,B,nl,C,sv,fv,us,fs,R⟩;have z6:=iM R.blk;rw[e1]at z6;have HL:=Ca g #[.i er,.n0,.i 0,.i 0,.i 0,.string ⟨#[]⟩,.n0,.n0,.n0,.i m.paid,.i 0];have D:=jh (Y.out.trans t);have H6:=jh R;clear t R e1)
     | (refine sH rfl 38 _ _ rfl rfl rfl (jj _ _) rfl oA oA ?_))
    simp only[rs0]at HL;generalize World.setRow _ _ _=M at *;have z7:=zN HL.2;have⟨q,y⟩:=cc.out _ _ _ D HL.1;have Z:Hid (Q (.returned (.agg #[.i er,.n0,.i 0,.i 0,.i 0,.string ⟨#[]⟩,.n0,.n0,.n0,.i m.paid,.i 0])) (M.setRow (W.heap.size+1+1) #[.i er,.n0,.i 0,.i 0,.i 0,.string ⟨#[]⟩,.n0,.n0,.n0,.i m.paid,.i 0])):=by rw[<-HQ.out];refine⟨_,rfl,?_,aG q (mQ _ _ _) od⟩;rw[show rsO (.no er m)=⟨er,[],zeroVa,m.paid,0⟩ by simp only[rsO,if_neg ba]];exact Wp _ _
    clear HL z6 hk q hE ba;simp only[Act.put];go_wp2_with (refine sH rfl 38 _ _ rfl rfl rfl y rfl oA oA ?_);exact yb (results_cell_row results10 _ _ (W.heap.size+1+1) _ _ _ _ rfl (nZ y) underlying38 rfl oA) rfl Z
  | go m =>
   rw[ho]at ad HD;rw[ho]at HQ;clear ho
   go_upto_region 7 with (first
    | (go_at_call 29;(with_reducible refine cd.out.mono ?_);rintro e w5 ⟨rfl,O5,r,u⟩;have Y:=jh r;have ab:=jh u;clear r u)
    | (go_at_call 30;(with_reducible refine (ad.out _ _ _ ab.out).mono ?_);rintro e g ⟨O6,t,rfl,k,n,a,s',aa,al,ac,T,tl,U,B,nl,C,sv,fv,us,fs,R⟩;have z6:=iM R.blk;have HL:=Ca g #[.i 0,.n0,.i 0,.i 0,.i 0,.string ⟨#[]⟩,.n0,.n0,.n0,.i m.paid,.i 0];have D:=jh (Y.out.trans t);have H6:=jh R;clear t R)
    | (refine sH rfl 38 _ _ rfl rfl rfl (jj _ _) rfl oA oA ?_))
   simp only[rs0]at HL;generalize World.setRow _ _ _=M at *;have z7:=zN HL.2;have E:=jh HL;clear HL z6 hk;simp only[Act.put]
   go_upto_region 9 with (fail)
   have p:cm g M.drew none:=fK E.1;have cJ:Hid (Calls prog 28 #[sv] M.drew (IV O6 M.drew m.st)):=by have h:=Cy (H6.grow p).jL.src (by have:=HD.out.2.2.2.2.2;simp;omega);rw[jf7]at h;exact h
   refine wR (cs:=[((2:Nat),λw:bx=>cm g w none),((9:Nat),λw:bx=>cm g w none)]) 10 oA oA ?_;refine dN (i:=0) (some 43) (bL (.inr p) (bL (.inr p) fP)) ?_;simp only[Act.put,zc,xF,xj];refine ry (i:=1) (k:=2) (some 44) (bL (.inr p) (bL (.inr p) fP)) (.head _) (Or.inl ⟨by rfl,λw hw=>by have hk:=iM (l5 H6.out.blk hw);go_simp;with_reducible rfl⟩) ?_ (hi:=rfl);simp only[Act.put,zc,xF,xj];refine dN (i:=4) (some 47) (bL (.inr p) (bL (.inr p) fP)) ?_;simp only[Act.put,zc,xF,xj];refine ry (i:=5) (k:=9) (some 48) (bL (.inr p) (bL (.inr p) fP)) (.tail _ (.head _)) (Or.inl ⟨by rfl,λw hw=>by have hk:=iM (l5 H6.out.blk hw);go_simp;with_reducible rfl⟩) ?_ (hi:=rfl);simp only[Act.put,zc,xF,xj];refine gU (rs:=[2]) oA rfl (iE.cons rfl (λK c=>?_) iE.nil);go_simp;refine cJ.out.mono ?_;rintro e w8 ⟨v,cS,rfl,J,bc⟩;obtain⟨a2,c2,rfl,cR⟩:=J.slice;have cE:cm g w8 none:=aJ p bc;refine c.out _ _ (bL (.inl rfl) (bL (.inr cE) fP)) ?_;clear c K;refine gU (rs:=[3]) oA rfl (iE.cons rfl (λK c=>?_) iE.nil);go_simp;refine (Xz J bc HD.out.2.2.2.2.1 HD.out.2.2.2.2.2).mono ?_;rintro e w9 ⟨a3,c3,V3,rfl,bb,L,ai⟩;have cl:cm g w9 none:=aJ cE ai;refine c.out _ _ (bL (.inl rfl) (bL (.inr cl) fP)) ?_;clear c K;have F:=l5 E.out.2 (aJ (fK (bM M none)) (aJ bc ai));have z9:=zN F;have cj:=(Wq F (.slice a3 m.st.length c3)).1;have cN:=zN cj;have cD:=(Wq cj (.i m.aO)).2;refine dN (i:=6) (some 49) (bL (.inl rfl) (bL (.inr cl) fP)) ?_;simp only[Act.put,zc,xF,xj];have aq:cm g (w9.setCell ⟨g.heap.size,1,none⟩ (.slice a3 m.st.length c3)) none:=aG cl (dY (bM _ _) _ _ _) (qS _);refine gU (rs:=[7]) oA rfl (iE.cons rfl (λK c=>?_) iE.nil);go_simp;refine c.out _ _ (bL (.inl rfl) (bL (.inr aq) fP)) ?_;clear c K;refine dN (i:=8) (some 50) (bL (.inl rfl) (bL (.inr aq) fP)) ?_;simp only[Act.put,zc,xF,xj];refine gU (rs:=[9]) oA rfl (iE.cons rfl (λK c=>?_) iE.nil);go_simp;refine c.out _ _ (bL (.inl rfl) (bL (.inl rfl) fP)) ?_;clear c K;have ar:cm g ((w9.setCell ⟨g.heap.size,1,none⟩ (.slice a3 m.st.length c3)).setCell ⟨g.heap.size,10,none⟩ (.i m.aO)) none:=aG aq (dY (bM _ _) _ _ _) (qS _);refine uP oA ?_ _;have cP:=zN cD;clear z7 z9 cN cj F;have⟨q,y⟩:=cc.out _ _ _ D.out ar;have Z:Hid (Q (.returned (.agg #[.i 0,.slice a3 m.st.length c3,.i 0,.i 0,.i 0,.string ⟨#[]⟩,.n0,.n0,.n0,.i m.paid,.i m.aO])) (((w9.setCell ⟨g.heap.size,1,none⟩ (.slice a3 m.st.length c3)).setCell ⟨g.heap.size,10,none⟩ (.i m.aO)).setRow (W.heap.size+1+1) #[.i 0,.slice a3 m.st.length c3,.i 0,.i 0,.i 0,.string ⟨#[]⟩,.n0,.n0,.n0,.i m.paid,.i m.aO])):=by
    rw[<-HQ.out];have cL:W.heap.size+1+1<g.heap.size/\g.heap.size<w8.heap.size:=⟨ki (qq.1 I).1 D.size,ki (qq.1 E.2).1 bc.size⟩;refine⟨_,rfl,⟨a3,c3,V3,_,_,_,_,_,_,_,_,_,_,_,_,_,rfl,bb,?_,rV _ _⟩,aG q (mQ _ _ _) od⟩;refine (L.same (λb o S G=>?_)).ae (λb _ S=>?_)
    .exact qt (((mQ _ _ _).block b (by simpa using G) (λe=>by cases e;omega)).trans ((dY (dY (bM w9 (some g.heap.size)) _ _ _) _ _ _).block b G (λe=>by cases e;omega)))
    .have:=q.size;omega
   clear L J q;go_wp2_with (refine sH rfl 38 _ _ rfl rfl rfl y rfl oA oA ?_);exact yb (results_cell_row results10 _ _ (W.heap.size+1+1) _ _ _ _ rfl (nZ y) underlying38 rfl oA) rfl Z
def Vb{b:Bool}(d:Ah en=b)(hN:b->∀j,cm W j none->Calls prog 27 #[af nk nn np nz na az.length nc,.slice sa s.length sc,.slice la l.length lc] j λe w'=>e =.returned (.bool false)/\cm j w' none) :
 Calls prog 10 #[.agg #[.i en.self,.i en.sender,.i en.amount,.i en.balance],af nk nn np nz na az.length nc,.slice sa s.length sc,.slice la l.length lc,.i aC] W (PN W (rsO .stuck)):=by
 have o:=jh (DD en);rw[d]at o;have g:=jh hN;clear d hN;unfold af at g|-;generalize p:PN W (rsO .stuck)=Q;have q:=jh p;clear p;have f:=jh (PS W (.cells #[.i en.self,.i en.sender,.i en.amount,.i en.balance] 23) (.cells #[.i nk,.i nn,.i np,.string nz,.slice na az.length nc] 26) (.cells rs0 38));have k:Hid (∀w',cm W w' none->Q (.returned (.agg #[.i 14,.n0,.i 0,.i 0,.i 0,.string ⟨#[]⟩,.n0,.n0,.n0,.i 0,.i 0])) (w'.setRow (W.heap.size+1+1) #[.i 14,.n0,.i 0,.i 0,.i 0,.string ⟨#[]⟩,.n0,.n0,.n0,.i 0,.i 0])):=λw' r=>by rw[<-q.out];exact⟨_,rfl,Wp _ _,aG r (mQ _ _ _) od⟩
 cases b
 all_goals
  try replace g:=jh (g rfl)
  go_enter func10,ntmps10
  go_upto_region 1 with (fail)
  simp only[rs0]at f;generalize ((W.alloc _).alloc _).alloc _=m at *;have n:cm m m none:=bM _ _;have t:=λ(w':bx) (h:cm m w' none)=>And.intro (WY (l5 f.2.1 h)) (bE (l5 f.2.2.1 h));go_wp2_with (first
   | (go_at_call 26;(with_reducible refine (o.out _).mono ?_);rintro e u ⟨rfl,c⟩;have a:=aJ n c;clear c)
   | (go_at_call 27;(with_reducible refine (g.out _ (aJ f.out.1 a)).mono ?_);rintro e j ⟨rfl,c⟩;replace a:=aJ a c;clear c)
   | (refine sH rfl 38 _ _ rfl rfl rfl (l5 f.2.2.2 a) rfl oA oA ?_))
  exact yb (results_cell_row results10 _ _ (W.heap.size+1+1) _ _ _ _ rfl (nZ (l5 f.2.2.2 a)) underlying38 rfl oA) rfl (k _ (aJ f.1 a))
end
open Pe
def Xc (en:En):A1:=.agg [.d (.v (.i en.self)),.d (.v (.i en.sender)),.d (.v (.i en.amount)),.d (.v (.i en.balance))]
def YW (r:Rs):A1:=.agg [.d (.v (.i r.code)),.d (.s 7 (vasD r.stack)),.d (.v (.i r.said.k)),.d (.v (.i r.said.n)),.d (.v (.i r.said.a)),.d (.v (.string r.said.s)),.d (.s 7 (vasD r.said.args)),.d (.s 2 (tysD r.said.types)),.d (.s 5 (ndsD r.said.code)),.d (.v (.i r.aC)),.d (.v (.i r.aO))]
def TZ{ok:br}{w:bx}{en:En}{v:cg}(h:gm (λ_=>none) ok w (Xc en) v):v =.agg #[.i en.self,.i en.sender,.i en.amount,.i en.balance]:=by
 obtain⟨k,rfl,h⟩:=h
 match k,h with
 | [a,b,c,d],⟨e,f,g,j,_⟩ =>
  rw[bW e,bW f,bW g,bW j]
def XC{ok:br}{w:bx}{r:Rs}{v:cg}(h:WQ ok w r v):iZ (λ_=>none) ok w (.of (YW r)) v:=by obtain⟨sa,sc,V,k,n,a,s,y,al,z,B,tl,C,na,A,nc,rfl,l,j,i⟩:=h;have⟨b,c,u,x,m,o,e,p,q,t⟩:=y9 i;simp only[bg,qd7,qf0,xo,jd0,Value.string.injEq,true_and,and_true]at e;obtain⟨rfl,rfl,rfl,rfl,d,f,g⟩:=e;rw[d,f,g];exact⟨_,rfl,.v _,yu j l,.v _,.v _,.v _,.v _,p,q,t,.v _,.v _,trivial⟩
def VK{en:En}{n:Tr}{s:ao}{l:an}{aC:Int}(hn:okN n)(M:n.size<=4611686018427387904)(X:okTs s)(W:okVs l)(h6:l.length<=10000000)(hz:∀x∈l,x.size<=6000000)(z:bD aC)(I:aC<=50000) :
 Hd ⟨10,[Xc en,ndA n,dZ s,qi l,iA aC],.of (YW (Fy en n s l aC))⟩:=⟨rM func10,λok w vs h=>by
 match vs,h with
 | [ev,Z,sv,Y,gv],⟨he,C,D,A,J,_⟩ =>
  have hM:=(Pn hn M X W hz (λe h=>EO h)).runN rfl;have d:∀g,cm w g none->Calls prog 27 #[Z,sv,Y] g λe p=>e =.returned (.bool (rW n s l))/\cm g p none:=λg q=>by have k:zH ok w ok g:=⟨q.size,λb F h=>⟨h,λo=>qt (q.block b F ot)⟩⟩;refine (hM ok g [Z,sv,Y] ⟨C.keep k (λ_ _ h=>h),D.keep k (λ_ _ h=>h),A.keep k (λ_ _ h=>h),trivial⟩).mono ?_;rintro e p ⟨z,v,rfl,hv⟩;exact⟨by rw[bW hv],z⟩
  obtain rfl:=TZ he;obtain rfl:gv =.i aC:=bW J;have hL:=oK hn C;obtain⟨_,nk,nn,np,nz,na,nc,t,rfl,j⟩:=qL hL;obtain⟨sa,sc,VS,rfl,ah,ab⟩:=jR X (.inl rfl) D;obtain⟨la,lc,VL,rfl,ad,H⟩:=lV W (.inl rfl) A;have⟨P,n1,Q,R,az⟩:=n;simp only[Tr.args0,Tr.nd.injEq,and_true]at t j d|-;obtain⟨rfl,rfl,rfl,rfl⟩:=t;have fin:∀(r:Rs) (e:Ending) (p:bx),PN w r e p->cm w p none/\∃v,e =.returned v/\iZ (λ_=>none) (λb=>ok b\/w.heap.size<=b) p (.of (YW r)) v:=λr e p ⟨v,e1,hr,z⟩=>by have⟨sa,sc,V,k,n,a,s,aa,al,ac,ta,tl,tc,na,nl,nc,e2,u,hV,hS⟩:=hr;exact⟨z,v,e1,XC ⟨sa,sc,V,k,n,a,s,aa,al,ac,ta,tl,tc,na,nl,nc,e2,u,hV.ae (λb _ h=>.inr h),hS.ae (λb _ h=>.inr h)⟩⟩
  by_cases G:Ah en/\rW (.nd P n1 Q R az) s l
  .unfold Fy;rw[if_pos G];have⟨m,B⟩:=G;have⟨⟨f,x,u⟩,U⟩:=zb.1 B;have y:=Md m;have hx:=uV u;have T:x.length<=342:=by omega
   have E:f=false->x=x:=λ_=>rfl;have⟨N,S⟩:=Cg (aC:=aC) y u E T U hz;rw[xA (uW S)];have⟨L,c⟩:az.length<=nc/\∃V,cK ok w az na V:=by have⟨_,h1,V,h2⟩:=rep_rowN _ (qS _) hn.2 j;exact⟨h1,V,h2⟩
   have⟨VR,c⟩:=c;rw[B]at d;exact (RA m y c L T I (Gg u E U hz) S d (λg q O hO=>Cy (Src.row ((H.ae (ok':=λb=>¬O b) λb F _ h=>by have:=hO b h;omega).same (λb o _ K=>qt (q.block b K ot)))) od) z).mono (fin _)
  .unfold Fy;rw[if_neg G];refine (Vb (b:=Ah en) (s:=s) (l:=l) (az:=az) rfl (λF g q=>?_)).mono (fin _);have:=d g q;rw[show rW (.nd P n1 Q R az) s l=false by cases h:rW (.nd P n1 Q R az) s l with|false=>rfl|true=>exact absurd ⟨F,h⟩ G]at this;exact this⟩
def abf{s:ao}(a:s≠[])(hn:s.length<=20000000):∀p∈[rowsLe (tysD s) (tysD s),ZV 32 0 [] (tysD s),0+(tysD s).length=(tysD s).length],p :=
 al (rows_refl _) (al (za ot (by cases s<;>simp_all [tysD]) (KN s) ZD ov) (al (qa2 _) al0))
def abg{l:an}(a:l≠[])(hn:l.length<=20000000):∀p∈[rowsLe (vasD l) (vasD l),ZV 112 0 [] (vasD l),0+(vasD l).length=(vasD l).length],p :=
 al (rows_refl _) (al (za ot (by cases l<;>simp_all [vasD]) (Cr l) OF ov) (al (qa2 _) al0))
def H_types0:Hd ⟨9,[dZ []],.of nilA⟩:=runT func9 [(4,nilA)] [] (ob:=[some (AV.of nilA)=some (.of nilA)/\([]:List (List D))=[]/\nilA.isS=true]) (al ⟨rfl,rfl,rfl⟩ al0)
def H_values0:Hd ⟨11,[qi []],.of nilA⟩:=runT func11 [(4,nilA)] [] (ob:=[some (AV.of nilA)=some (.of nilA)/\([]:List (List D))=[]/\nilA.isS=true]) (al ⟨rfl,rfl,rfl⟩ al0)
def Tm{l:ao}(hk:okTs l)(hn:l.length<=20000000):Hd ⟨9,[dZ l],.of (dZ l)⟩:=by
 rcases l with _|⟨T,l⟩
 .exact H_types0.conv (λ_ _ _ h=>h) λok w v h=>gG (show fI ok w (.s 0 []) v from h)
 .exact runT func9 [] [] (abf ot hn)
def Pt{l:an}(hk:okVs l)(hn:l.length<=20000000):Hd ⟨11,[qi l],.of (qi l)⟩:=by
 rcases l with _|⟨x,l⟩
 .exact H_values0.conv (λ_ _ _ h=>h) λok w v h=>gG (show fI ok w (.s 0 []) v from h)
 .exact runT func11 [] [] (abg ot hn)
set_option maxHeartbeats 1000000
def qR (k:Int):Int:=if k.tmod 3000<0 then k.tmod 3000+3000 else k.tmod 3000
def Rh(k:Int):0<=qR k/\qR k<3000:=by have a:=Int.lt_tmod_of_pos k (b:=3000) ov;have c:=Int.tmod_lt_of_pos k (b:=3000) ov;unfold qR;split<;>omega
def Rj(k:Int)(hk:bD k)(w:bx):Calls prog 32 #[.i k,.i 3000] w λe w'=>e =.returned (.i (qR k))/\w'=w:=by
 have⟨f,g⟩:=hk;have c:=Int.lt_tmod_of_pos k (b:=3000) ov;have d:k.tmod 3000<3000:=Int.tmod_lt_of_pos k ov;unfold qR
 by_cases a:k.tmod 3000<0
 .rw[if_pos a];go_enter func32,ntmps32;go_wp2;go_ret;exact⟨rfl,rfl⟩
 .rw[if_neg a];go_enter func32,ntmps32;go_wp2;go_ret;exact⟨rfl,rfl⟩
def WE{k:Int}(hk:bD k):Hd ⟨12,[iA k],.of (iA (qR k))⟩:=by
 have h:Hd ⟨32,[iA k,iA 3000],.of (iA (qR k))⟩:=⟨rM func32,λok w f h=>by
  match f,h with
  | [u,v],⟨c,d,_⟩ =>
   obtain rfl:u =.i k:=bW c;obtain rfl:v =.i 3000:=bW d;exact (Rj k hk w).mono λe g ⟨a,b⟩=>⟨b ▸ bM _ _,_,a,.v _⟩⟩
 exact aF func12 [⟨_,h⟩]
def vW (en:En) (s:ao) (l:an):Bool:=Ah en&&decide (s.length=l.length)&&fitsAll s l
def YR (s:ao) (l:an) (j:Nat):St:=[((0,1),.of (dZ s)),((0,2),.of (qi l)),((0,54),lW (tysD s).length),((0,55),.of (jA j))]
def Nt{s:ao}{l:an}(A:okTs s)(y:okVs l)(r:s.length=l.length)(D:l.length<=100000)(hz:∀x∈l,x.size<=6000000) :
 ∀(k j:Nat),j+k=s.length->vO prog f13.ntmps ⟨gF f13,YR s l j,Zv (fitsAll (s.drop j) (l.drop j)),Zw (fitsAll (s.drop j) (l.drop j))⟩:=λk=>by
 induction k with
 | zero =>
  intro j w;have f:=wH (a:=Int.ofNat j) (b:=((tysD s).length:Int)) ZD;have v:fitsAll (s.drop j) (l.drop j):=by rw[qf1 (by omega:l.length<=j)];cases s.drop j<;>rfl
  rw[v];exact xQ (e:=1) [(56,bA false)] [] (ob:=[mD (aQ (decide (Int.ofNat j<((tysD s).length:Int)))) (bA false)]) (al f al0)
 | succ k C =>
  intro j w;have d:j<l.length:=od
  have c:j<s.length:=od
  have f:=is_lt (a:=Int.ofNat j) (b:=((tysD s).length:Int)) ZD;have u:=PT (qn d);have B:mD (lW (IntKind.i64.wrap (Int.ofNat j+1))) (jA (j+1)):=yY (zF ot oB oB);have hF:=VJ (okTs_at.1 A _ (zd c)) (okVs_at.1 y _ (zd d)) (hz _ (zd d));have z:=C (j+1) od;rw[yW d,yW c];have g:∀t a,s[j] =.nd t a->OQ s j t a:=λt a e=>EK (by rw[qn c,e]);simp only[fitsAll];generalize l[j]=x at *;generalize s[j]=T at *;generalize qC T x=b at *;have⟨t,a⟩:=T;have g:=g t a rfl;have⟨m,n,i,q,o,p,h⟩:=x
  cases b with
  | false =>
   rw[Bool.false_and];exact xQ (e:=0) [(56,bA true),(60,.one (.e (tyD (.nd t a)) 0)),(64,.one (.e (vaD (.mk m n i q o p h)) 0))] [⟨_,hF⟩] (ob:=[mD (aQ (decide (Int.ofNat j<((tysD s).length:Int)))) (bA true),OQ s j t a,XT l j (.mk m n i q o p h)]) (al f (al g (al u al0)))
  | true =>
   rw[qh5];exact LG [(56,bA true),(60,.one (.e (tyD (.nd t a)) 0)),(64,.one (.e (vaD (.mk m n i q o p h)) 0)),(68,jA (j+1))] [⟨_,hF⟩] z (ob:=[mD (aQ (decide (Int.ofNat j<((tysD s).length:Int)))) (bA true),OQ s j t a,XT l j (.mk m n i q o p h),mD (lW (IntKind.i64.wrap (Int.ofNat j+1))) (jA (j+1))]) (al f (al g (al u (al B al0))))
def Pg{en:En}{s:ao}{l:an}(I:okTs s)(H:okVs l)(G:l.length<=100000)(J:∀x∈l,x.size<=6000000):Hd ⟨13,[Xc en,dZ s,qi l],aQ (vW en s l)⟩:=by
 have t:(((tysD s).length:Int)=((vasD l).length:Int)) ↔ s.length=l.length:=by rw[eY,qY];omega
 have w:vW en s l=(!((!decide (((tysD s).length:Int)=((vasD l).length:Int)))||decide (en.self<0)||decide (12<=en.self)||decide (en.sender<0)||decide (12<=en.sender)||decide (en.amount<0)||decide (1152921504606846976<en.amount)||decide (en.balance<0)||decide (1152921504606846976<en.balance))&&fitsAll s l):=by
  unfold vW
  congr 1
  rw[qd5];simp only[Ah,zL,Gb,kE,qu,kj,qh7,Bool.or_eq_false_iff,Bool.not_eq_false',jb4,t];omega
 have k:=λh=>Nt I H h G J s.length 0 od;rw[qg4,qg4]at k;rw[<-t]at k;rw[w];clear w t;generalize fitsAll s l=b at *;generalize u:(!decide (((tysD s).length:Int)=((vasD l).length:Int)))=a;generalize y:(decide (en.self<0))=c;generalize z:(decide (12<=en.self))=d;generalize A:(decide (en.sender<0))=e;generalize B:(decide (12<=en.sender))=f;generalize C:(decide (en.amount<0))=g;generalize v:(decide (1152921504606846976<en.amount))=j;generalize D:(decide (en.balance<0))=m;generalize E:(decide (1152921504606846976<en.balance))=o;have i:∀p∈Xk [(true,jJ (!decide (((tysD s).length:Int)=((vasD l).length:Int))) a),(!a,jJ (decide (en.self<0)) c),(!a && !c,jJ (decide (12<=en.self)) d),(!a && !c && !d,jJ (decide (en.sender<0)) e),(!a && !c && !d && !e,jJ (decide (12<=en.sender)) f),(!a && !c && !d && !e && !f,jJ (decide (en.amount<0)) g),(!a && !c && !d && !e && !f && !g,jJ (decide (1152921504606846976<en.amount)) j),(!a && !c && !d && !e && !f && !g && !j,jJ (decide (en.balance<0)) m),(!a && !c && !d && !e && !f && !g && !j && !m,jJ (decide (1152921504606846976<en.balance)) o)],p:=IM (eT u) (IM (eT y) (IM (eT z) (IM (eT A) (IM (eT B) (IM (eT C) (IM (eT v) (IM (eT D) (IM (eT E) al0))))))))
 by_cases r:(a||c||d||e||f||g||j||m||o)
 .rw [r];refine runT func13 [(12,bA a),(16,bA c),(21,bA d),(26,bA e),(31,bA f),(36,bA g),(41,bA j),(46,bA m),(51,bA o)] [] i (h:=?_);clear i u y z A B C D E;revert r;cases a
  case' false =>
   cases c
   case' false =>
    cases d
    case' false =>
     cases e
     case' false =>
      cases f
      case' false =>
       cases g
       case' false =>
        cases j
        case' false =>
         cases m
         case' false =>
          cases o
  all_goals first|(intro h;exact absurd h ov)|(intro _;kernel_rfl)
 .simp only[qe0,not_or,Bool.not_eq_true]at r;obtain⟨⟨⟨⟨⟨⟨⟨⟨rfl,rfl⟩,rfl⟩,rfl⟩,rfl⟩,rfl⟩,rfl⟩,rfl⟩,rfl⟩:=r;have k:=k (by simpa using u);have F:=wI (S:=YR s l 0) (q:=gF f13=gF f13) rfl i;cases b
  .exact Ce func13 [(12,fA),(16,fA),(21,fA),(26,fA),(31,fA),(36,fA),(41,fA),(46,fA),(51,fA)] [⟨gF f13,YR s l 0,1,[((0,6),aQ false)]⟩] (by intro x n;rw[js]at n;subst n;exact k) [] F
  .exact Ce func13 [(12,fA),(16,fA),(21,fA),(26,fA),(31,fA),(36,fA),(41,fA),(46,fA),(51,fA)] [⟨gF f13,YR s l 0,2,[]⟩] (by intro x n;rw[js]at n;subst n;exact k) [] F
section
variable (ok:br) (w:bx)
def Ye:bd->bd->Prop
 | [],[]=>True
 | x::xs,y::ys=>(∀u,fI ok w x u->fI ok w y u)/\Ye xs ys
 | _,_=>False
end
def Ye.at{ok:br}{w:bx} : ∀{r r':bd},Ye ok w r r'->r'.length=r.length/\∀(j:Nat) (c:D),r'[j]?=some c->∃x,r[j]?=some x/\∀u,fI ok w x u->fI ok w c u
 | [],[],_=>⟨rfl,λj x h=>by simp at h⟩
 | x::g,y::i,⟨e,f⟩=>by
  have⟨a,b⟩:=Ye.at f;refine⟨by simp[a],λj c d=>?_⟩
  cases j with
  | zero=>simp at d;subst d;exact⟨x,rfl,e⟩
  | succ j=>exact b j c (by simpa using d)
def Fu{ok:br}{w:bx}{n:Nat}{r r':bd}{v:cg}(h:Ye ok w r r')(u:fI ok w (.s n [r]) v):fI ok w (.s n [r']) v:=by
 have⟨g,f⟩:=h.at
 cases u with
 | s U l m o k t hz =>
  have a:∀(i:Nat) (q:bd),[r'][i]?=some q->i=0/\q=r':=λi q e=>by
   cases i with
   | zero=>simp at e;exact⟨rfl,e.symm⟩
   | succ i=>simp at e
  refine fI.s (es:=[r']) U l m (λi q e=>?_) (λi q j x b c=>?_) (λi q j x b c=>?_) hz
  .obtain⟨rfl,rfl⟩:=a i q e;rw[g];exact o 0 r rfl
  .obtain⟨rfl,rfl⟩:=a i q b;have⟨y,d,_⟩:=f j x c;exact k 0 r j y rfl d
  .obtain⟨rfl,rfl⟩:=a i q b;have⟨y,d,p⟩:=f j x c;exact p _ (t 0 r j y rfl d)
def runsN:Tr:=.nd 3 0 0 ⟨#[]⟩ [.nd 2 0 40 ⟨#[]⟩ []]
def runs_eq:Fy ⟨0,0,0,0⟩ runsN [.nd 4 []] [.mk 4 3 0 ⟨#[]⟩ [] [] []] 9=⟨0,[],zeroVa,1,0⟩:=by unfold Fy;rw[if_pos ⟨ov,oA⟩,xA (N:=3) (by rw[show fq ⟨0,0,0,0⟩ 9 3 (jO [.mk 4 3 0 ⟨#[]⟩ [] [] []] runsN.args0) =.go ⟨1,0,zeroVa,[],[]⟩ by kernel_rfl];simp)];rw[show fq ⟨0,0,0,0⟩ 9 3 (jO [.mk 4 3 0 ⟨#[]⟩ [] [] []] runsN.args0) =.go ⟨1,0,zeroVa,[],[]⟩ by kernel_rfl];rfl
def dropD:bd:=[.v (.i 2),.v (.i 0),.v (.i 40),.v (.string ⟨#[]⟩),.s 0 []]
def H_seq1:Hd ⟨34,[.one (.d (.s 5 [dropD]))],.of (.agg [.d (.v (.i 3)),.d (.v (.i 0)),.d (.v (.i 0)),.d (.v (.string ⟨#[]⟩)),.d (.s 5 [dropD])])⟩:=aF func34 []
def H_run1:Hd ⟨10,[Xc ⟨0,0,0,0⟩,.agg [.d (.v (.i 3)),.d (.v (.i 0)),.d (.v (.i 0)),.d (.v (.string ⟨#[]⟩)),.d (.s 5 [dropD])],.one (.d (.s 2 [[.v (.i 4),.s 0 []]])),.one (.d (.s 7 [[.v (.i 4),.v (.i 3),.v (.i 0),.v (.string ⟨#[]⟩),.s 0 [],.s 0 [],.s 0 []]])),iA 9],.of (YW ⟨0,[],zeroVa,1,0⟩)⟩:=by
 have f:∀k:Int,-1000<=k->k<=1000->bD k:=λk g j=>⟨od,od⟩;have h:=VK (en:=⟨0,0,0,0⟩) (n:=runsN) (s:=[.nd 4 []]) (l:=[.mk 4 3 0 ⟨#[]⟩ [] [] []]) (aC:=9) ⟨⟨f _ ov ov,f _ ov ov,f _ ov ov,zE _⟩,⟨⟨f _ ov ov,f _ ov ov,f _ ov ov,zE _⟩,trivial⟩,trivial⟩ ov ⟨⟨f _ ov ov,trivial⟩,trivial⟩ ⟨⟨⟨f _ ov ov,f _ ov ov,f _ ov ov,zE _⟩,trivial,trivial,trivial⟩,trivial⟩ ov (λx m=>by simp at m;subst m;decide) (f _ ov ov) ov;rw[runs_eq]at h;refine h.conv (λok w D u=>?_) (λ_ _ _ h=>h)
 match D,u with
 | [a,b,c,d,e],⟨g,⟨bs,t,j⟩,o,p,q,_⟩ =>
  match bs,j with
  | [E,F,G,H,I],⟨y,z,A,B,C,_⟩ =>
   exact⟨g,⟨_,t,y,z,A,B,Fu (r:=dropD) (r':=[.v (.i 2),.v (.i 0),.v (.i 40),.v (.string ⟨#[]⟩),.s 5 []]) ⟨λ_ h=>h,λ_ h=>h,λ_ h=>h,λ_ h=>h,λ_ h=>gG h,trivial⟩ C,trivial⟩,Fu (r:=[.v (.i 4),.s 0 []]) (r':=[.v (.i 4),.s 2 []]) ⟨λ_ h=>h,λ_ h=>gG h,trivial⟩ o,Fu (r:=[.v (.i 4),.v (.i 3),.v (.i 0),.v (.string ⟨#[]⟩),.s 0 [],.s 0 [],.s 0 []]) (r':=[.v (.i 4),.v (.i 3),.v (.i 0),.v (.string ⟨#[]⟩),.s 7 [],.s 2 [],.s 5 []]) ⟨λ_ h=>h,λ_ h=>h,λ_ h=>h,λ_ h=>h,λ_ h=>gG h,λ_ h=>gG h,λ_ h=>gG h,trivial⟩ p,q,trivial⟩
def H_runs:Hd ⟨14,[],aQ true⟩:=aF func14 [⟨_,H_seq1⟩,⟨_,H_run1⟩]
section
variable {en:En}{n:Tr}{s x:ao}{l:an}{f:Bool}{g aC:Int}
def fitsK_iff:vW en s l ↔ Ah en/\FitS s l:=by
 simp only[vW,qu,kj];constructor
 .rintro⟨⟨b,a⟩,c⟩;exact⟨b,(fitsAll_iff a).1 c⟩
 .rintro⟨b,a⟩;exact⟨⟨b,fitS_len a⟩,(fitsAll_iff (fitS_len a)).2 a⟩
def Rz(hc:codeF n s =.ok f x)(r:vW en s l)(k:Sm l):∃N o,fq en g N (jO l n.args0)=o/\Fy en n s l g=rsO o/\Done g x o/\(f->∀m,o ≠ .go m):=by
 have⟨a,hF⟩:=fitsK_iff.1 r;have c:=Md a;have t:=uV hc;have⟨N,b⟩:=Cg (aC:=g) (z:=x) c hc (λ_=>rfl) od hF k;refine⟨N,_,rfl,?_,b,λd m e=>?_⟩
 .unfold Fy;rw[if_pos ⟨a,zb.2 ⟨⟨f,x,hc⟩,hF⟩⟩,xA (uW b)]
 .have⟨M,i⟩:=Cg (aC:=g) (z:=[.nd 1 []]) c hc (λh=>by rw[d]at h;cases h) ov hF k;have p:fq en g N (jO l n.args0)=fq en g M (jO l n.args0):=(xA (uW b)).symm.trans (xA (uW i));rw[<-p,e]at i;rw[e]at b;have q:=fitS_len i.1;have j:=fitS_len b.1;rw[t.2.2 d]at j;simp at q j;omega
def run_stuck(h:(∃e,codeF n s =.no e)\/vW en s l=false):Fy en n s l g=⟨14,[],zeroVa,0,0⟩:=by
 unfold Fy;rw[if_neg ?_]
 .rfl
 .rintro⟨b,c⟩;have⟨⟨f,x,a⟩,hF⟩:=zb.1 c;rcases h with⟨e,d⟩|h
  .rw[d]at a;cases a
  .rw[fitsK_iff.2 ⟨b,hF⟩]at h;cases h
end
def Xd(ok:br)(w:bx)(en:En):gm (λ_=>none) ok w (Xc en) (.agg #[.i en.self,.i en.sender,.i en.amount,.i en.balance]):=⟨[.i en.self,.i en.sender,.i en.amount,.i en.balance],rfl,.v _,.v _,.v _,.v _,trivial⟩
def tlength_le:∀l:ao,l.length<=tysizes l
 | []=>zE _
 | T::l=>by have:=tlength_le l;have⟨t,a⟩:=T;simp only[jt,tysizes,Ty.size];omega
mutual
def fewV:Va->Bool
 | .mk k n a s args types code=>if k=15 then decide (n<=1073741824)else fewVs args
def fewVs:an->Bool
 | []=>true
 | x::xs=>fewV x&&fewVs xs
end
def VB(v:Va):fewV v=if v.k=15 then decide (v.n<=1073741824)else fewVs v.args:=by cases v;rw[fewV];rfl
def few_le:∀(N:Nat) {T:Ty}{v:Va},v.size<=N->Fit T v->fewV v->tkV v<=1073741824*v.size:=λN=>by
 induction N with
 | zero=>intro T v m;have:=qZ v;omega
 | succ N n =>
  intro T v m h d;have⟨_,_,⟨g,o,f⟩,_⟩:=iO h;have j:∀{l:an} {g:ao},vsizes l<=N->FitS g l->fewVs l->tkVs l<=1073741824*vsizes l:=by
   intro l
   induction l with
   | nil=>intro _ _ _ _;simp[tkVs]
   | cons x l i =>
    intro g hz f d
    cases g with
    | nil=>exact f.elim
    | cons T g =>
     rw[fewVs,qu]at d;rw[vsizes]at hz|-;have a:=n od f.1 d.1;have b:=i od f.2 d.2;rw[tkVs,Nat.mul_add];omega
  have e:=eP v;rw[VB]at d;rw[DF]
  by_cases c:v.k=15
  .rw[if_pos c]at d;rw[if_pos c,Ey h ((Gw h).symm.trans c)];have:=jb1 d;omega
  .rw[if_neg c]at d;rw[if_neg c];have:=j od f d;omega
def Kid (T:Ty) (v:Va) (j:Nat) (U:Ty):Prop :=
 (T.t=9\/T.t=10)/\T.args=[U]\/T.t=11/\T.args[j]?=some U\/(T.t=12/\∃A B,T.args=[A,B]/\(v.n=0/\U=A\/v.n=1/\U=B))\/T.t=13/\U =.nd 11 T.args\/T.t=8/\v.types=[U]
def aac{T:Ty}{v:Va}(h:Fit T v)(f:T.t=8):∃U x,v.types=[U]/\v.args=[x]/\Fit U x:=by
 have⟨j,d,⟨l,b,c⟩,_⟩:=iO h;simp only[eX,qu]at d;have a:=d.1.2;unfold eZ at a;rw[if_pos f]at a;unfold bS at b;simp only[f]at b;simp at b;obtain⟨k,rfl⟩:=b
 match i:v.types,a with
 | [U],_ =>
  rw[i]at c;have⟨x,r,e,g,c⟩:=av c
  cases r with
  | nil=>exact⟨U,x,rfl,e,g⟩
  | cons _ _=>exact c.elim
 | [],a=>simp[oneGood]at a
 | _::_::_,a=>simp[oneGood]at a
def V7{T:Ty}{v x:Va}{j:Nat}(h:Fit T v)(w:T.t≠15)(f:v.args[j]?=some x):∃U,Fit U x/\Kid T v j U:=by
 have C:=(uk (je h)).1;have b:=zj f
 by_cases r:T.t=9
 .obtain⟨A,e,p|⟨y,p,a⟩⟩:=EW h r
  .rw[p]at b;cases b
  .rw[p,js]at b;subst b;exact⟨A,a,.inl ⟨.inl r,e⟩⟩
 by_cases g:T.t=10
 .have⟨A,e,_,a⟩:=xG h g;exact⟨A,a x b,.inl ⟨.inr g,e⟩⟩
 by_cases i:T.t=11
 .have⟨A,B,y,z,e,m,s,u⟩:=uX h i;rw[m]at f
  match j,f with
  | 0,f=>cases f;exact⟨A,s,.inr (.inl ⟨i,by rw[e];rfl⟩)⟩
  | 1,f=>cases f;exact⟨B,u,.inr (.inl ⟨i,by rw[e];rfl⟩)⟩
  | j+2,f=>simp at f
 by_cases d:T.t=12
 .have⟨A,B,y,e,m,a⟩:=Xj h d;rw[m,js]at b;subst b;rcases a with⟨o,a⟩|⟨o,a⟩
  .exact⟨A,a,.inr (.inr (.inl ⟨d,A,B,e,.inl ⟨o,rfl⟩⟩))⟩
  .exact⟨B,a,.inr (.inr (.inl ⟨d,A,B,e,.inr ⟨o,rfl⟩⟩))⟩
 by_cases k:T.t=13
 .have⟨A,B,e,_,a,_⟩:=Am h k;exact⟨_,a x b,.inr (.inr (.inr (.inl ⟨k,by rw[e]⟩)))⟩
 by_cases q:T.t=8
 .have⟨U,y,e,m,a⟩:=aac h q;rw[m,js]at b;subst b;exact⟨U,a,.inr (.inr (.inr (.inr ⟨q,e⟩)))⟩
 have o:v.args=[]:=by
  by_cases n:T.t=14
  .have⟨_,_,_,_,e,_⟩:=Lm h n;exact e
  .have⟨_,_,⟨D,l,_⟩,_⟩:=iO h;have:=rE l;unfold bS at l;simp only at l;rw[if_neg q,oa,if_neg g,if_neg k,if_neg d,if_neg n,yU (je h) od]at l;split at l
   .rename_i c;exact jx c
   .cases l
 rw[o]at b;cases b
def bxS (T:Ty) (v:Va):St:=[((0,2),.of (.one (.p 2 0))),((3,0),.of (iA T.t)),((3,1),.of (dZ T.args)),((0,3),.of (.one (.p 3 0))),((4,0),.of (iA v.k)),((4,1),.of (iA v.n)),((4,2),.of (iA v.a)),((4,3),.of (.one (.d (.v (.string v.s))))),((4,4),.of (qi v.args)),((4,5),.of (dZ v.types)),((4,6),.of (CW v.code))]
def fwT (T:Ty) (v:Va) (j:Nat):St:=bxS T v++[((0,15),.of (qi v.args)),((0,16),lW (vasD v.args).length),((0,17),.of (jA j))]
abbrev fwL (p:St) (ex:Nat) (q:St):Prop:=vO prog f19.ntmps ⟨gF f19,p,ex,q⟩
def aa3{T U:Ty}{v x:Va}{j:Nat}{b:Bool}(C:v.args[j]?=some x)(R:v.args.length<=20000000)(B:Hd ⟨19,[tyA U,pF x],aQ b⟩)(hk:Kid T v j U) :
 (b=false->fwL (fwT T v j) 1 [((0,4),.of fA)])/\(b->∀ex q,fwL (fwT T v (j+1)) ex q->fwL (fwT T v j) ex q):=by
 have Q:=(qv.1 C).1;have D:=is_lt (a:=Int.ofNat j) (b:=((vasD v.args).length:Int)) OF;have E:=PT C;have P:mD (lW (IntKind.i64.wrap (Int.ofNat j+1))) (jA (j+1)):=yY (zF ot oB oB);have⟨t,az⟩:=T;have⟨g,f⟩:=U;have⟨u,w,s,A,y,z,r⟩:=v;have⟨K,L,J,O,M,N,I⟩:=x;simp only[Kid,Ty.t,Ty.args,Va.n,Va.types]at hk;have F:=λ(k:Hints) {i:List Prop} (m:∀p∈i,p) {ex:Nat} {q:St} (h:fwL (fwT (.nd t az) (.mk u w s A y z r) (j+1)) ex q) o c=>LG ([(18,bA true),(20,.one (.e (vaD (.mk K L J O M N I)) 0))]++k++[(62,jA (j+1))]) [⟨_,B⟩] h (al D (al E (oH m (al P al0)))) (pre:=fwT (.nd t az) (.mk u w s A y z r) j) (h:=o) (hc:=c);have G:=λ(k:Hints) {i:List Prop} (m:∀p∈i,p) o c=>(xQ (e:=0) ([(18,bA true),(20,.one (.e (vaD (.mk K L J O M N I)) 0))]++k) [⟨_,B⟩] (al D (al E m)) (h:=o) (hc:=c):fwL (fwT (.nd t az) (.mk u w s A y z r) j) 1 [((0,4),.of fA)]);have H:az[j]?=some (.nd g f)->OQ az j g f:=λh=>EK h;cases b
 .refine⟨λ_=>?_,λh=>(by cases h)⟩;rcases hk with⟨rfl|rfl,rfl⟩|⟨rfl,l⟩|⟨rfl,⟨_,_⟩,⟨_,_⟩,rfl,⟨rfl,d⟩|⟨rfl,d⟩⟩|⟨rfl,d⟩|⟨rfl,rfl⟩
  case' inr.inl=>exact G [(37,.one (.e (tyD (.nd g f)) 0))] (al (H l) al0) oA oA
  all_goals first|(cases d;exact G [] al0 oA oA)|exact G [] al0 oA oA
 .refine⟨λh=>(by cases h),λ_ ex q h=>?_⟩;rcases hk with⟨rfl|rfl,rfl⟩|⟨rfl,l⟩|⟨rfl,⟨_,_⟩,⟨_,_⟩,rfl,⟨rfl,d⟩|⟨rfl,d⟩⟩|⟨rfl,d⟩|⟨rfl,rfl⟩
  case' inr.inl=>exact F [(37,.one (.e (tyD (.nd g f)) 0))] (al (H l) al0) h oA oA
  all_goals first|(cases d;exact F [] al0 h oA oA)|exact F [] al0 h oA oA
def Rl{T:Ty}{v:Va}(g:v.args.length<=20000000)(d:∀j x,v.args[j]?=some x->∃U,Hd ⟨19,[tyA U,pF x],aQ (fewV x)⟩/\Kid T v j U):∀i j,j+i=v.args.length->fwL (fwT T v j) (if fewVs (v.args.drop j)then 2 else 1) (if fewVs (v.args.drop j)then []else [((0,4),.of fA)])
 | 0,j,m=>by have n:=wH (a:=Int.ofNat j) (b:=((vasD v.args).length:Int)) OF;rw[qf1 od];exact xQ (e:=1) [(18,fA)] [] (al n al0)
 | i+1,j,m=>by
  have c:j<v.args.length:=od
  have k:=qn c;rw[yW c,fewVs];generalize v.args[j]=x at *;have⟨U,l,hk⟩:=d j x k;have h:=aa3 k g l hk
  cases f:fewV x with
  | false=>exact h.1 f
  | true=>rw[qh5];exact h.2 f _ _ (Rl g d i (j+1) od)
def H_few:∀(N:Nat) {T:Ty}{v:Va},v.size<=N->N<=20000000->Fit T v->Hd ⟨19,[tyA T,pF v],aQ (fewV v)⟩:=λN=>by
 induction N with
 | zero=>intro T v s;have:=qZ v;omega
 | succ N u =>
  intro T v s p h;have hk:=Gw h;have hz:=eP v;have w:=kS v.args
  by_cases c:T.t=15
  .have⟨t,az⟩:=T;have⟨f,g,e,m,i,l,d⟩:=v;obtain rfl:t=15:=c;rw[VB,if_pos (show Va.k (.mk f g e m i l d)=15 from hk)];exact aF func19 []
  .have n:=Rl (T:=T) (v:=v) od (λj x a=>by
    have⟨U,r,hk⟩:=V7 h c a;exact⟨U,u (by have:=fO (zj a);omega) od r,hk⟩) v.args.length 0 od
   rw[qg4]at n;rw[VB,oa];have o:jJ (decide (T.t=15)) false:=eT (qa6 c);generalize fewVs v.args=b at *;have⟨t,az⟩:=T;have⟨f,g,e,m,i,l,d⟩:=v;cases b
   .exact Ce func19 [(10,fA)] [_] (by intro x a;rw[js]at a;subst a;exact n) [] (wI (S:=fwT (.nd t az) (.mk f g e m i l d) 0) (q:=gF f19=gF f19) rfl (ps:=[jJ (decide (t=15)) false]) (al o al0))
   .exact Ce func19 [(10,fA)] [_] (by intro x a;rw[js]at a;subst a;exact n) [] (wI (S:=fwT (.nd t az) (.mk f g e m i l d) 0) (q:=gF f19=gF f19) rfl (ps:=[jJ (decide (t=15)) false]) (al o al0))
def tkT (b c:Nat) (T:Ty) (v:Va) (j:Nat):St:=bxS T v++[((0,5),.of (jA c)),((0,b),.of (qi v.args)),((0,b+1),lW (vasD v.args).length),((0,b+2),.of (jA j))]
def TkB (b i a d e:Nat):Prop:=b=22/\i=0/\a=26/\d=35/\e=36\/b=40/\i=1/\a=45/\d=55/\e=56\/b=73/\i=2/\a=77/\d=89/\e=90
abbrev tkL (i:Nat) (p:St) (ex:Nat) (q:St):Prop:=vO prog f20.ntmps ⟨kX f20 i,p,ex,q⟩
def aaX (b:Nat) (T:Ty) (v:Va) (j:Nat) (x y:Va) (U:Ty):Prop :=
 b=22/\(T.t=9\/T.t=10)/\T.args=[U]/\y=x\/b=40/\T.t=11/\T.args[j]?=some U/\y=x\/b=73/\T.t=13/\∃A z,T.args=[A,U]/\x.args=[z,y]
def aaJ{b i a d e c:Nat}(hb:TkB b i a d e){T U:Ty}{v x y:Va}{j m n:Nat}{q:St}(r:v.args[j]?=some x)(Z:v.args.length<=20000000)(hm:c+m<=1000000000000000000)(A:Hd ⟨20,[tyA U,pF y],.of (jA m)⟩)(hk:aaX b T v j x y U)(h:tkL i (tkT b (c+m) T v (j+1)) n q):tkL i (tkT b c T v j) n q:=by
 have Y:=(qv.1 r).1;have C:=is_lt (a:=Int.ofNat j) (b:=((vasD v.args).length:Int)) OF;have D:=PT r;have E:mD (lW (IntKind.i64.wrap (Int.ofNat c+Int.ofNat m))) (jA (c+m)):=yY Kf;have G:mD (lW (IntKind.i64.wrap (Int.ofNat j+1))) (jA (j+1)):=yY (zF ot oB oB);have⟨t,az⟩:=T;have⟨l,k⟩:=U;have⟨K,L,J,O,M,N,I⟩:=v;have⟨R,S,Q,X,V,W,P⟩:=x;have⟨yk,yn,yi,yz,yr,yt,yd⟩:=y;simp only[aaX,Ty.t,Ty.args,Va.args]at hk;have F:=λ(u:Hints) {s:List Prop} (B:∀p∈s,p) o z=>LG ([(b+3,bA true),(a,.one (.e (vaD (.mk R S Q X V W P)) 0))]++u++[(d,jA (c+m)),(e,jA (j+1))]) [⟨_,A⟩] h (al C (al D (oH B (al E (al G al0))))) (pre:=tkT b c (.nd t az) (.mk K L J O M N I) j) (h:=o) (hc:=z);have H:az[j]?=some (.nd l k)->OQ az j l k:=λh=>EK h;rcases hk with⟨rfl,rfl|rfl,rfl,f⟩|⟨rfl,rfl,w,f⟩|⟨rfl,rfl,⟨_,_⟩,⟨_,_,_,_,_,_,_⟩,rfl,rfl⟩<;>rcases hb with⟨g,rfl,rfl,rfl,rfl⟩|⟨g,rfl,rfl,rfl,rfl⟩|⟨g,rfl,rfl,rfl,rfl⟩<;>first|(cases g;done)|skip
 .cases f;exact F [] al0 oA oA
 .cases f;exact F [] al0 oA oA
 .cases f;exact F [(51,.one (.e (tyD (.nd l k)) 0))] (al (H w) al0) oA oA
 .exact F [] al0 oA oA
def ZO{b i a d e:Nat}(hb:TkB b i a d e){T:Ty}{v:Va}(m:v.args.length<=20000000)(l:∀j x,v.args[j]?=some x->∃U y,tkV y=tkV x/\Hd ⟨20,[tyA U,pF y],.of (jA (tkV y))⟩/\aaX b T v j x y U):∀r j c,j+r=v.args.length->c+tkVs (v.args.drop j)<=1000000000000000000->tkL i (tkT b c T v j) (2*i+3) [((0,5),.of (jA (c+tkVs (v.args.drop j))))]
 | 0,j,c,p,g=>by
  have s:=wH (a:=Int.ofNat j) (b:=((vasD v.args).length:Int)) OF;rw[qf1 od];have F:=λex o z=>(xQ (e:=ex) [(b+3,fA)] [] (al s al0) (h:=o) (hc:=z):tkL i (tkT b c T v j) (ex+1) [((0,5),.of (jA (c+0)))]);rcases hb with⟨rfl,rfl,rfl,rfl,rfl⟩|⟨rfl,rfl,rfl,rfl,rfl⟩|⟨rfl,rfl,rfl,rfl,rfl⟩
  .exact F 2 oA oA
  .exact F 4 oA oA
  .exact F 6 oA oA
 | r+1,j,c,p,g=>by
  have f:j<v.args.length:=od
  have n:=qn f;rw[yW f,tkVs]at g|-;generalize v.args[j]=x at *;have⟨U,y,q,k,hk⟩:=l j x n;rw[q]at k;rw[<-qd6];exact aaJ hb n m od k hk (ZO hb m l r (j+1) (c+tkV x) od od)
def H_tickets:∀(N:Nat) {T:Ty}{v:Va},v.size<=N->N<=20000000->Fit T v->tkV v<=1000000000000000000->Hd ⟨20,[tyA T,pF v],.of (jA (tkV v))⟩:=λN=>by
 induction N with
 | zero=>intro T v Y;have:=qZ v;omega
 | succ N ih =>
  intro T v Y aa h hc;have hk:=Gw h;have hz:=eP v;have hl:=kS v.args;have R:=DF v;have r:=λ{x:Va} {U:Ty} (u:x∈v.args) (c:Fit U x)=>ih (T:=U) (v:=x) (by have:=fO u;omega) od c (by have:=tk_mem u;omega)
  by_cases f:T.t=15
  .have X:=Ey h f;rw[if_pos (hk.trans f),X]at R;have⟨A,x,_,_,_,_,g3,_⟩:=xH h f;have V:iA v.n=jA (tkV v):=by rw[R];show iA v.n=iA ((v.n.toNat+0:Nat):Int);congr 1;congr 1;congr 1;congr 1;omega
   rw[<-V];have⟨t,az⟩:=T;have⟨H,I,G,M,J,L,E⟩:=v;obtain rfl:t=15:=f;exact aF func20 []
  rw[oa,qa2]at R;rw[R]at hc|-;have i0:jJ (decide (T.t=15)) false:=eT (qa6 f)
  by_cases k:T.t=12
  .have⟨A,B,x,e,s,c⟩:=Xj h k;have P:=λ{U:Ty} (c:Fit U x)=>r (by rw[s];simp) c;rw[s,tkVs,tkVs,qd3];generalize tkV x=m at *;have⟨t,az⟩:=T;have⟨H,I,G,M,J,L,E⟩:=v;simp only[Ty.t,Ty.args,Va.args,Va.n]at k e s c;subst k;subst e;subst s;have⟨xk,xn,xi,xz,xr,xt,xd⟩:=x;rcases c with⟨rfl,c⟩|⟨rfl,c⟩<;>have P:=P c<;>have⟨At,Aa⟩:=A<;>have⟨Bt,Ba⟩:=B<;>exact aF func20 [⟨_,P⟩]
  by_cases O:T.t=8
  .have⟨U,x,e,s,c⟩:=aac h O;have P:=r (by rw[s];simp) c;rw[s,tkVs,tkVs,qd3];generalize tkV x=m at *;have⟨t,az⟩:=T;have⟨H,I,G,M,J,L,E⟩:=v;simp only[Ty.t,Va.args,Va.types]at O e s;subst O;subst e;subst s;have⟨xk,xn,xi,xz,xr,xt,xd⟩:=x;have⟨ut,ua⟩:=U;exact aF func20 [⟨_,P⟩]
  by_cases C:T.t=9\/T.t=10\/T.t=11\/T.t=13
  .have D:∀{b i a d e:Nat},TkB b i a d e->(b=22/\(T.t=9\/T.t=10)\/b=40/\T.t=11\/b=73/\T.t=13)->tkL i (tkT b 0 T v 0) (2*i+3) [((0,5),.of (jA (tkVs v.args)))]:=λ{b i a d e} hb ab=>by
    have:=ZO hb (T:=T) (v:=v) od (λj x u=>by
     have W:=zj u;have⟨U,c,hk⟩:=V7 h f u;rcases hk with⟨g,Z⟩|⟨g,Z⟩|⟨g,_⟩|⟨g,rfl⟩|⟨g,_⟩
     .exact⟨U,x,rfl,r W c,.inl ⟨od,g,Z,rfl⟩⟩
     .exact⟨U,x,rfl,r W c,.inr (.inl ⟨od,g,Z,rfl⟩)⟩
     .exact absurd g k
     .have⟨A,B,V,_,_,_,w⟩:=Am h g;have⟨A',B',y,z,q1,q2,f1,f2⟩:=uX c rfl;rw[V]at q1;simp only[Ty.args,xo,and_true]at q1;obtain⟨rfl,rfl⟩:=q1;have Q:=eP x;have hs:=fO W;have ht:=tk_mem W;have et:tkV z=tkV x:=by rw[DF x,if_neg (by rw[Gw c];exact (by decide:¬(11:Int)=15)),q2,tkVs,tkVs,tkVs,Jg f1 (Nv w)];omega
      rw[q2]at Q;simp only[vsizes]at Q;exact⟨B,z,et,ih od od f2 od,.inr (.inr ⟨od,g,A,y,V,q2⟩)⟩
     .exact absurd g O) v.args.length 0 0 od (by rw[qg4];omega)
    rwa [qg4,qa2]at this
   have K:=λ{b i:Nat} {ps:List Prop} (h:∀p∈ps,p)=>wI (S:=tkT b 0 T v 0) (q:=kX f20 i=kX f20 i) rfl h;generalize tkVs v.args=m at *;clear r;have⟨t,az⟩:=T;have⟨H,I,G,M,J,L,E⟩:=v;have F:=λ{b i:Nat} (D:tkL i (tkT b 0 (.nd t az) (.mk H I G M J L E) 0) (2*i+3) [((0,5),.of (jA m))]) o=>(Ce (res:=.of (jA m)) func20 [] [_] (by intro x u;rw[js]at u;subst u;exact D) [] (K (b:=b) (i:=i) al0) (h:=o):Hd ⟨20,[tyA (.nd t az),pF (.mk H I G M J L E)],.of (jA m)⟩);simp only[Ty.t]at C;rcases C with rfl|rfl|rfl|rfl
   .exact F (D (.inl ⟨rfl,rfl,rfl,rfl,rfl⟩) (.inl ⟨rfl,.inl rfl⟩)) oA
   .exact F (D (.inl ⟨rfl,rfl,rfl,rfl,rfl⟩) (.inl ⟨rfl,.inr rfl⟩)) oA
   .exact F (D (.inr (.inl ⟨rfl,rfl,rfl,rfl,rfl⟩)) (.inr (.inl ⟨rfl,rfl⟩))) oA
   .exact F (D (.inr (.inr ⟨rfl,rfl,rfl,rfl,rfl⟩)) (.inr (.inr ⟨rfl,rfl⟩))) oA
  have X:v.args=[]:=by
   cases Y:v.args with
   | nil=>rfl
   | cons x l =>
    have⟨U,_,hk⟩:=V7 h f (j:=0) (x:=x) (by rw[Y];rfl);rcases hk with⟨g,_⟩|⟨g,_⟩|⟨g,_⟩|⟨g,_⟩|⟨g,_⟩<;>omega
  have ho:=al i0 (al (eT (qa6 (λe=>C (.inl e)))) (al (eT (qa6 (λe=>C (.inr (.inl e))))) (al (eT (qa6 (λe=>C (.inr (.inr (.inl e)))))) (al (eT (qa6 k)) (al (eT (qa6 (λe=>C (.inr (.inr (.inr e)))))) (al (eT (qa6 O)) al0))))));rw[X];have⟨t,az⟩:=T;have⟨H,I,G,M,J,L,E⟩:=v;exact runT func20 [(15,fA),(19,fA),(20,fA),(38,fA),(58,fA),(71,fA),(92,fA)] [] ho
def lwB (x:ao) (m:Ma):St:=[((0,11),.of (.one (.p 11 0))),((12,0),.of (dZ x)),((0,13),.of (.one (.p 13 0))),((14,0),.of (iA 0)),((14,1),.of (qi m.st)),((14,10),.of (iA m.aO))]
def lw1 (s:ao) (l:an) (x:ao) (m:Ma) (c j:Nat):St:=lwB x m++[((0,2),.of (dZ s)),((0,3),.of (qi l)),((0,59),lW (tysD s).length),((0,60),.of (jA j)),((0,14),.of (jA c)),((0,15),.of (iA 0))]
def lw2 (x:ao) (m:Ma) (w c j:Nat):St:=lwB x m++[((0,86),.of (dZ x)),((0,87),lW (tysD x).length),((0,88),.of (jA j)),((0,14),.of (jA w)),((0,15),.of (jA c))]
def lwE (x:ao) (m:Ma) (w c:Nat):St:=lwB x m++[((0,14),.of (jA w)),((0,15),.of (jA c))]
abbrev lwL (i:Nat) (p:St) (ex:Nat) (q:St):Prop:=vO prog f7.ntmps ⟨kX f7 i,p,ex,q⟩
section
variable {s x:ao}{l:an}{m:Ma}{c w j:Nat}
def few_les:∀{l:an}{ts:ao},FitS ts l->fewVs l->tkVs l<=1073741824*vsizes l
 | [],_,_,_=>by simp[tkVs]
 | x::l,[],h,_=>h.elim
 | x::l,T::ts,h,c=>by rw[fewVs,qu]at c;have a:=few_le _ (qS _) h.1 c.1;have b:=few_les h.2 c.2;rw[tkVs,vsizes,Nat.mul_add];omega
def Tp(hF:FitS s l)(H:Sm l)(I:l.length<=100000):∀i j c,j+i=s.length->c+1073741824*vsizes (l.drop j)<=1000000000000000000->lwL 0 (lw1 s l x m c j) (if fewVs (l.drop j)then 2 else 1) (if fewVs (l.drop j)then lwE x m (c+tkVs (l.drop j)) 0 else [((0,10),.of (bA true))])
 | 0,j,c,L,G=>by have y:=fitS_len hF;have B:=wH (a:=Int.ofNat j) (b:=((tysD s).length:Int)) ZD;rw[qf1 od];exact xQ (e:=1) [(61,fA)] [] (al B al0)
 | i+1,j,c,L,G=>by
  have y:=fitS_len hF;have z:j<s.length:=od
  have d:j<l.length:=od
  have⟨v,u,E⟩:=fitS_get hF j z;have K:=qn z;generalize s[j]=T at *;have D:=yW d;rw[qn d,qk]at u;rw[u]at D;rw[D,vsizes]at G;have u:l[j]?=some v:=by rw[qn d,u]
  have M:=zj u;have N:=H v M;have B:=is_lt (a:=Int.ofNat j) (b:=((tysD s).length:Int)) ZD;have f:=λt a e=>EK (s:=s) (m:=j) (t:=t) (a:=a) (K.trans (congrArg some e));have F:=PT u;have O:mD (lW (IntKind.i64.wrap (Int.ofNat j+1))) (jA (j+1)):=yY (zF ot oB oB);have A:=H_few v.size (qS _) od E;rw[D,fewVs,tkVs];have w:=few_le _ (qS _) E
  cases C:fewV v with
  | false =>
   rw[C]at A;have⟨t,a⟩:=T;have f:=f t a rfl;have⟨k,n,h,r,o,p,g⟩:=v;exact xQ (e:=0) [(61,bA true),(65,.one (.e (tyD (.nd t a)) 0)),(69,.one (.e (vaD (.mk k n h r o p g)) 0))] [⟨_,A⟩] (al B (al f (al F al0)))
  | true =>
   rw[C]at A;have w:=w C;have J:=H_tickets v.size (qS _) od E od;have Q:=Tp hF H I i (j+1) (c+tkV v) od od;rw[qh5,<-qd6];have P:mD (lW (IntKind.i64.wrap (Int.ofNat c+Int.ofNat (tkV v)))) (jA (c+tkV v)):=yY Kf;generalize tkV v=q at *;have⟨t,a⟩:=T;have f:=f t a rfl;have⟨k,n,h,r,o,p,g⟩:=v;exact LG [(61,bA true),(65,.one (.e (tyD (.nd t a)) 0)),(69,.one (.e (vaD (.mk k n h r o p g)) 0)),(76,.one (.e (tyD (.nd t a)) 0)),(80,.one (.e (vaD (.mk k n h r o p g)) 0)),(83,jA (c+q)),(84,jA (j+1))] [⟨_,A⟩,⟨_,J⟩] Q (al B (al f (al F (al f (al F (al P (al O al0)))))))
def TT(hF:FitS x m.st)(p:Sm m.st)(D:m.st.length<=100000):∀i j c,j+i=x.length->c+tkVs (m.st.drop j)<=1000000000000000000->lwL 1 (lw2 x m w c j) 4 (lwE x m w (c+tkVs (m.st.drop j)))
 | 0,j,c,H,n=>by have g:=fitS_len hF;have k:=wH (a:=Int.ofNat j) (b:=((tysD x).length:Int)) ZD;rw[qf1 od];exact xQ (e:=3) [(89,fA)] [] (al k al0)
 | i+1,j,c,H,n=>by
  have g:=fitS_len hF;have h:j<x.length:=od
  have d:j<m.st.length:=od
  have⟨v,f,G⟩:=fitS_get hF j h;have F:=qn h;generalize x[j]=T at *;have o:=yW d;rw[qn d,qk]at f;rw[f]at o;rw[o,tkVs]at n|-;have f:m.st[j]?=some v:=by rw[qn d,f]
  have I:=p v (zj f);have k:=is_lt (a:=Int.ofNat j) (b:=((tysD x).length:Int)) ZD;have l:=λt a e=>EK (s:=x) (m:=j) (t:=t) (a:=a) (F.trans (congrArg some e));have J:=PT f;have K:mD (lW (IntKind.i64.wrap (Int.ofNat j+1))) (jA (j+1)):=yY (zF ot oB oB);have E:=H_tickets v.size (qS _) od G od;have M:=TT hF p D i (j+1) (c+tkV v) od od;rw[<-qd6];have L:mD (lW (IntKind.i64.wrap (Int.ofNat c+Int.ofNat (tkV v)))) (jA (c+tkV v)):=yY Kf;generalize tkV v=q at *;have⟨t,a⟩:=T;have l:=l t a rfl;have⟨y,z,u,C,A,B,r⟩:=v;have⟨Q,P,R,N,O⟩:=m;exact LG [(89,bA true),(95,.one (.e (tyD (.nd t a)) 0)),(100,.one (.e (vaD (.mk y z u C A B r)) 0)),(103,jA (c+q)),(104,jA (j+1))] [⟨_,E⟩] M (al k (al l (al J (al L (al K al0)))))
end
def abq{en:En}{n:Tr}{s:List Ty}{l:List Va}{aC:Int}(hn:okN n)(K:n.size<=4611686018427387904)(M:okTs s)(ai:s.length<=10000000)(V:okVs l)(h6:l.length<=10000000)(hz:Sm l)(hg:bD aC):Hd ⟨7,[Xc en,ndA n,dZ s,qi l,iA aC],aQ true⟩:=by
 have i:=Tm M od;have r:=IY hn K M;have C:=Pt V od;have A:=WE hg;have hp:=Rh aC;have hR:=VK (en:=en) (aC:=qR aC) hn K M V h6 hz ⟨od,od⟩ od;have B:=H_runs
 cases u:codeF n s with
 | no e =>
  rw[u]at r;rw[run_stuck (.inl ⟨e,u⟩)]at hR;have T:=EO u;obtain⟨nk,nn,np,nz,na⟩:=n;exact runT func7 [(35,bA true)] [⟨_,i⟩,⟨_,r⟩,⟨_,i⟩,⟨_,C⟩,⟨_,A⟩,⟨_,hR⟩,⟨_,B⟩] (ob:=[jJ (!decide (e=0)) true]) (al (eT (by simp[T])) al0)
 | ok f x =>
  rw[u]at r;have ad:=Gm u
  cases L:vW en s l with
  | false =>
   rw[run_stuck (.inr L)]at hR;obtain⟨nk,nn,np,nz,na⟩:=n;exact aF func7 [⟨_,i⟩,⟨_,r⟩,⟨_,i⟩,⟨_,C⟩,⟨_,A⟩,⟨_,hR⟩,⟨_,B⟩]
  | true =>
   obtain⟨N,o,O,hr,R,U⟩:=Rz (g:=qR aC) u L hz;rw[hr]at hR;obtain⟨J,c⟩:=fitsK_iff.1 L;have ab:=fitS_len c;have hF:=Pg (en:=en) M V od hz;rw[L]at hF
   cases o with
   | stuck=>exact R.elim
   | no e m =>
    obtain⟨Z,T⟩:=R;obtain⟨nk,nn,np,nz,na⟩:=n;obtain⟨E,p,F,G,D⟩:=m;rcases T with⟨rfl,_⟩|rfl|⟨rfl,_⟩|rfl<;>exact aF func7 [⟨_,i⟩,⟨_,r⟩,⟨_,i⟩,⟨_,C⟩,⟨_,A⟩,⟨_,hR⟩,⟨_,B⟩]
   | go m =>
    obtain⟨H,Y,ah,Z,aa,ae⟩:=R;obtain rfl:f=false:=by cases f;rfl;exact absurd rfl (U rfl m)
    have hx:=uV u;have Q:=ZP (S:=x) (Md J) od N _ m (Gg u (λ_=>rfl) c hz) O;have P:Xw (jO l n.args0)=(tkVs l:Int):=by simp[Xw,jO,tkF,tkVs]
    rw[P]at Q;have aj:vsizes l<=240000000:=by
     have : ∀k:List Va,Sm k->vsizes k<=6000000*k.length:=λk=>by
      induction k with
      | nil=>intro _;simp[vsizes]
      | cons y k ih=>intro h;have h1:=h y ot;have h2:=ih (λz hz=>h z (by simp[hz]));simp only[vsizes,jt];omega
     have:=this l hz;omega
    have d:=Tp (x:=x) (m:=m) c hz od s.length 0 0 od (by rw[qg4];omega);rw[qg4,qa2]at d;have X:=Y.1
    by_cases t:(1099511627776:Int)<m.aO
    .clear d Q P O;obtain⟨nk,nn,np,nz,na⟩:=n;obtain⟨E,p,F,G,D⟩:=m;exact runT func7 [(51,bA true)] [⟨_,i⟩,⟨_,r⟩,⟨_,i⟩,⟨_,C⟩,⟨_,A⟩,⟨_,hR⟩,⟨_,hF⟩,⟨_,B⟩] (ob:=[jJ (decide ((1099511627776:Int)<p)) true]) (al (eT (qg0 t)) al0)
    have i1:jJ (decide ((1099511627776:Int)<m.aO)) false:=eT (qa6 t)
    cases j:fewVs l with
    | false =>
     rw[j]at d;clear Q P O;obtain⟨nk,nn,np,nz,na⟩:=n;obtain⟨E,p,F,G,D⟩:=m;exact Ce func7 [(51,fA)] [_] (by intro y v;rw[js]at v;subst v;exact d) [⟨_,i⟩,⟨_,r⟩,⟨_,i⟩,⟨_,C⟩,⟨_,A⟩,⟨_,hR⟩,⟨_,hF⟩,⟨_,B⟩] (wI (S:=lw1 s l x ⟨E,p,F,G,D⟩ 0 0) (q:=kX f7 0=kX f7 0) rfl (ps:=[jJ (decide ((1099511627776:Int)<p)) false]) (al i1 al0))
    | true =>
     rw[j]at d;have W:=few_les c j;have I:=TT (x:=x) (m:=m) (w:=tkVs l) H aa od x.length 0 0 (by have:=fitS_len H;omega) (by rw[qg4];omega);rw[qg4,qa2]at I;have i2:jJ (decide (IntKind.i64.wrap (Int.ofNat (tkVs m.st) - Int.ofNat (tkVs l))<=m.aO)) true:=eT (qg0 (by rw[qb1];simp only[Int.ofNat_eq_natCast];omega));have i3:jJ (decide ((0:Int)<=m.aO)) true:=eT (qg0 X);clear Q P O W;generalize tkVs m.st=b at *;generalize tkVs l=a at *;obtain⟨nk,nn,np,nz,na⟩:=n;obtain⟨E,p,F,G,D⟩:=m;exact Ce func7 [(51,fA),(110,bA true),(114,bA true)] [_,_] (by intro y v;rcases zr.1 v with rfl|v;exact d;rw[js]at v;subst v;exact I) [⟨_,i⟩,⟨_,r⟩,⟨_,i⟩,⟨_,C⟩,⟨_,A⟩,⟨_,hR⟩,⟨_,hF⟩,⟨_,B⟩] (oH (wI (S:=lw1 s l x ⟨E,p,F,G,D⟩ 0 0) (q:=kX f7 0=kX f7 0) rfl (ps:=[jJ (decide ((1099511627776:Int)<p)) false]) (al i1 al0)) (oH (wI (S:=lw2 x ⟨E,p,F,G,D⟩ a 0 0) (q:=kX f7 1=kX f7 1) rfl (ps:=[]) al0) (al i2 (al i3 al0))))
