import Derived.Test.YtgfdimkbfnpepaaGreatKfZaw
namespace Go.Proofs.YtgfdimkbfnpepaaGreat
set_option linter.all false
open Go.Proofs.Tryz
open Go.ChangeShapes Go.WideShapes Go.ChangeAt Go.RowKit
set_option maxRecDepth 100000
set_option maxHeartbeats 4000000
def WQ (ok:br) (w:bx) (r:Rs) (v:cg):Prop:=∃sa sc V k n a s aa al ac ta tl tc na nl nc,v =.agg #[.i r.code,.slice sa r.stack.length sc,.i k,.i n,.i a,.string s,.slice aa al ac,.slice ta tl tc,.slice na nl nc,.i r.aC,.i r.aO]/\r.stack.length<=sc/\aT ok w r.stack sa V/\aA ok w r.said (bg k n a s aa al ac ta tl tc na nl nc)
def PN (W:bx) (r:Rs) (e:Ending) (w':bx):Prop:=∃v,e =.returned v/\WQ (W.heap.size <= ·) w' r v/\cm W w' none
def Wp{ok:br}{w:bx}(e p:Int):WQ ok w ⟨e,[],zeroVa,p,0⟩ (.agg #[.i e,.n0,.i 0,.i 0,.i 0,.string ⟨#[]⟩,.n0,.n0,.n0,.i p,.i 0]) :=
 ⟨none,0,λ_=>.i 0,_,_,_,_,_,_,_,_,_,_,_,_,_,rfl,qS _,aT.nil _ _ _ _,rV _ _⟩
def I64_0:bD 0:=⟨ov,ov⟩
section
variable {ok:br}{W:bx}{en:En}{nk nn np:Int}{nz:bo}{az:aE}{na sa la:bj}{nc sc lc:Nat}{s:ao}{l:an}{aC:Int}
abbrev ma0:Array cg:=#[.i 0,.i 0,.i 0,.i 0,.i 0,.i 0,.i 0,.i 0,.i 0,.i 0,.string ⟨#[]⟩,.n0,.n0,.n0,.n0,.n0]
def JP{B mb:Nat}{k w:bx}{f:cg}{us:bk}{p:br}(t:B<=mb)(hb:w.heap[mb]?=some (.cells (yG en aC 0 0 0 0 0 ⟨#[]⟩ none 0 0 none 0 0 none 0 0 f (.n0)) 65))(q:B<=k.heap.size)
 (d:nI p k w f l.reverse us) (hg:∀b o,b<k.heap.size->b≠mb->w.cell? ⟨b,o,none⟩=k.cell? ⟨b,o,none⟩) (hO:∀b,¬p b->b≠mb) (hgas:bD aC) :
 dm B (λb=>b=mb\/f.ownBlock=some b) w mb en aC ⟨0,0,zeroVa,l,[]⟩:=by
 refine⟨_,_,_,_,_,_,_,_,_,_,_,_,_,f,_,us,[],hb,rV _ _,⟨?_,d.len,λi x u y v=>?_,λg e=>.inr e⟩,qf4 _ _ _ _,trivial,?_,⟨.inl rfl,λg e=>by cases e⟩,?_,?_,I64_0,I64_0,hgas⟩
 .have⟨m,a⟩:=d.own;exact⟨m,a.imp id λ⟨g,c,j,e,s,r⟩=>⟨g,c,j,e,kl q s,r⟩⟩
 .have m:=(d.lies i x u y v).ae (ok':=λb=>¬(b=mb\/f.ownBlock=some b)/\b≠mb) λb hb h=>⟨λa=>by
   rcases a with a|a
   .exact hO b h a
   .have:=(zd d.own b a).1;omega,hO b h⟩
  exact (m.same λb o hb n=>hg b o n hb.2).ae λb _ h=>h.1
 .cases f.ownBlock<;>simp[keptBs]
 .rintro b (rfl|e)
  .exact t
  .exact kl q (zd d.own b e).1
 .rintro b (rfl|e)
  .exact⟨_,_,hb⟩
  .rcases d.own.2 with⟨rfl,_⟩|⟨g,c,j,rfl,_,h,_⟩
   .cases e
   .simp only[Value.ownBlock,qk]at e;subst e;exact⟨_,_,h⟩
def Fx{o:Oper}{a:Act}{w:bx}{K:Act->bx->Prop}{Q:Exit->Act->bx->Prop}{b:Nat}{cs z:Array cg}{t:TypeId}(T:TypeId)(x y:Operand)(d:o.op =.store T x y)(e:a.eval x =.po b)(f:a.eval y =.agg cs)(hb:w.heap[b]?=some (.cells z t (0,0)))(g:z.size=cs.size)(hi:(prog.info? T).map (·.size)=some cs.size)(c:cs.all (·.oneCell'))
 (h:K (a.put o.dst undef) (w.setRow b cs)):o.wp prog a w K Q:=wp_store_row T x y d b cs e f t z hb hi g c h
def nZ{w:bx}{b:Nat}{z cs:Array cg}{t:TypeId}(hb:w.heap[b]?=some (.cells z t (0,0))):(w.setRow b cs).heap[b]?=some (.cells cs t (0,0)):=by simp[World.setRow,ub,hb]
def mQ(w:bx)(b:Nat)(cs:Array cg):cm w (w.setRow b cs) (some b) :=
 ⟨rfl,rfl,rfl,by simp[World.setRow],λk c a=>by simp[World.setRow,ub];intro e;exact absurd (by rw[e]) a⟩
def DW{B a:Nat}{d n w i:bx}{z:Array cg}{c:cg}{us:bk}(x:B<=d.heap.size)(p:cm d n none)(q:cm n w none)(j:cm w i none)(s:d.heap.size<=a)(hb:i.heap[a]?=some (.cells z 65 (0,0)))(f:nI (d.heap.size <= ·) n w c l.reverse us)(v:c.ownBlock≠some a)(k:bD aC) :
 ∃O,dm B O (i.setRow a (yG en aC 0 0 0 0 0 ⟨#[]⟩ none 0 0 none 0 0 none 0 0 c (.n0))) a en aC ⟨0,0,zeroVa,l,[]⟩/\cm d (i.setRow a (yG en aC 0 0 0 0 0 ⟨#[]⟩ none 0 0 none 0 0 none 0 0 c (.n0))) none/\∀b,O b->d.heap.size<=b:=by
 have u:=mQ i a (yG en aC 0 0 0 0 0 ⟨#[]⟩ none 0 0 none 0 0 none 0 0 c (.n0));have r:nI (d.heap.size <= ·) n (i.setRow a (yG en aC 0 0 0 0 0 ⟨#[]⟩ none 0 0 none 0 0 none 0 0 c (.n0))) c l.reverse us:=⟨iT f.own λg e=>(u.block g (kh (zd f.own g e).2 j.size) (λy=>v (e.trans y))).trans (j.block g (zd f.own g e).2 ot),f.len,f.lies⟩;refine⟨_,JP (kl x s) (nZ hb) (kl x p.size) r (λb o m t=>?_) (λb h e=>h od) k,aG (aJ (aJ p q) j) u s,?_⟩
 .exact qt ((u.block b (kh m (aJ q j).size) (λe=>by cases e;exact t rfl)).trans ((aJ q j).block b m ot))
 .rintro b (rfl|e)
  .exact s
  .exact kl p.size (zd f.own b e).1
def PS(w:bx)(x y z:Obj):cm w (((w.alloc x).alloc y).alloc z) none/\(((w.alloc x).alloc y).alloc z).heap[w.heap.size]?=some x/\(((w.alloc x).alloc y).alloc z).heap[w.heap.size+1]?=some y/\(((w.alloc x).alloc y).alloc z).heap[w.heap.size+1+1]?=some z:=by
 refine⟨aJ (aJ (aK _) (aK _)) (aK _),l5 (CJ _ _ _) (aK _),?_,?_⟩
 .have h:=CJ (w.alloc x) y z;rw[ye]at h;exact h
 .have h:=jj ((w.alloc x).alloc y) z;rw[ye,ye]at h;exact h
def sH{o:Oper}{a:Act}{w:bx}{Q:Exit->Act->bx->Prop}{b:Nat}{cs z:Array cg}{t:TypeId}{d:Array Oper}{c:List Oper}(e:o.guard=none)(T:TypeId)(x y:Operand)(i:o.op =.store T x y)(j:a.eval x =.po b)(k:a.eval y =.agg cs)(hb:w.heap[b]?=some (.cells z t (0,0)))(l:z.size=cs.size)(hi:(prog.info? T).map (·.size)=some cs.size)(f:cs.all (·.oneCell'))
 (h:wpList prog d Q c (a.put o.dst undef) (w.setRow b cs)):wpList prog d Q (o::c) a w:=wpList_plain e λ_ g=>Fx T x y i j k hb l hi f (g _ _ h)
abbrev rs0:Array cg:=#[.i 0,.n0,.i 0,.i 0,.i 0,.string ⟨#[]⟩,.n0,.n0,.n0,.i 0,.i 0]
def Ca(w:bx)(cs:Array cg):cm w ((w.alloc (.cells rs0 38)).setRow w.heap.size cs) none/\((w.alloc (.cells rs0 38)).setRow w.heap.size cs).heap[w.heap.size]?=some (.cells cs 38) :=
 ⟨aG (aK _) (mQ _ _ _) (qS _),nZ (jj _ _)⟩
def zN{w:bx}{g:Nat}{T:TypeId}{x0 b c d e f i j k l a:cg}(h:w.heap[g]?=some (.cells #[x0,b,c,d,e,f,i,j,k,l,a] T (0,0))) :
 w.cell? ⟨g,0,none⟩=some x0/\w.cell? ⟨g,1,none⟩=some b/\w.cell? ⟨g,2,none⟩=some c/\w.cell? ⟨g,3,none⟩=some d/\w.cell? ⟨g,4,none⟩=some e/\w.cell? ⟨g,5,none⟩=some f/\w.cell? ⟨g,6,none⟩=some i/\w.cell? ⟨g,7,none⟩=some j/\w.cell? ⟨g,8,none⟩=some k/\w.cell? ⟨g,9,none⟩=some l/\w.cell? ⟨g,10,none⟩=some a/\∀o,w.frozen? ⟨g,o,none⟩=false:=by
 simp[World.cell?,World.frozen?,h]
def Eu{k:Nat} : ∀{l:an},(∀x∈l,x.size<=k)->vsizes l<=l.length*k
 | [],_=>by simp[vsizes]
 | x::l,h=>by have b:=h x ot;have c:=Eu (l:=l) λy a=>h y (by simp[a]);simp only[vsizes,jn,qh6];omega
def Xz{O:br}{h b:bx}{a:bj}{c:Nat}{st:an}{us:bk}(d:nI O h b (.slice a st.length c) st us)(k:cm h b none)(g:Sm st)(o:st.length<=342):Calls prog 31 #[.slice a st.length c] b (Tu b st):=by have⟨m,n,V,e,_,j⟩:=uG (ok:=λ_=>True) d.own d.len (λi x u f l=>((d.lies i x u f l).ae λ_ _ _=>trivial).same (ni k)) (λ_ _=>trivial) On;simp only[kj]at e;obtain⟨rfl,_,rfl⟩:=e;exact zT j (by have:=Eu g;omega) (λx f=>by have:=g x f;omega) od
def Wq{w:bx}{g:Nat}{T:TypeId}{x0 l b c d e f i j k a:cg}(h:w.heap[g]?=some (.cells #[x0,l,b,c,d,e,f,i,j,k,a] T (0,0)))(v:cg) :
 (w.setCell ⟨g,1,none⟩ v).heap[g]?=some (.cells #[x0,v,b,c,d,e,f,i,j,k,a] T (0,0))/\(w.setCell ⟨g,10,none⟩ v).heap[g]?=some (.cells #[x0,l,b,c,d,e,f,i,j,k,v] T (0,0)):=by
 simp[World.setCell,ub,h]
def Ny{W wc c:bx}{O d:br}(h:cm W wc none)(hF:dB O wc d c)(f:∀b,O b->W.heap.size<=b):cm W c none :=
 ⟨hF.os.trans h.os,hF.tape.trans h.tape,hF.output.trans h.output,kl h.size hF.size,λb a g=>(hF.block b (kh a h.size) (λe=>by have:=f b e;omega)).trans (h.block b a g)⟩
def WW{c f:Int}{w:bx}{b:Nat}{T:TypeId}{k n a:Int}{s:bo}{d:bj}{al ac:Nat}{ta:bj}{tl tc:Nat}{na:bj}{e nc:Nat}{j g:cg}(h:w.heap[b]?=some (.cells (yG en aC c f k n a s d al ac ta tl tc na e nc j g) T)) :
 w.cell? ⟨b,7,none⟩=some (.i k)/\w.cell? ⟨b,8,none⟩=some (.i n)/\w.cell? ⟨b,9,none⟩=some (.i a)/\w.cell? ⟨b,10,none⟩=some (.string s)/\w.cell? ⟨b,11,none⟩=some (.slice d al ac)/\w.cell? ⟨b,12,none⟩=some (.slice ta tl tc)/\w.cell? ⟨b,13,none⟩=some (.slice na e nc):=by
 simp[World.cell?,h,yG]
def XD{w:bx}{g:Nat}{T:TypeId}{x0 k m n o p q r s l a:cg}(h:w.heap[g]?=some (.cells #[x0,k,m,n,o,p,q,r,s,l,a] T (0,0)))(b c d e f i j:cg) :
 (((((((w.setCell ⟨g,2,none⟩ b).setCell ⟨g,3,none⟩ c).setCell ⟨g,4,none⟩ d).setCell ⟨g,5,none⟩ e).setCell ⟨g,6,none⟩ f).setCell ⟨g,7,none⟩ i).setCell ⟨g,8,none⟩ j).heap[g]?=some (.cells #[x0,k,b,c,d,e,f,i,j,l,a] T (0,0)) /\
 cm w (((((((w.setCell ⟨g,2,none⟩ b).setCell ⟨g,3,none⟩ c).setCell ⟨g,4,none⟩ d).setCell ⟨g,5,none⟩ e).setCell ⟨g,6,none⟩ f).setCell ⟨g,7,none⟩ i).setCell ⟨g,8,none⟩ j) (some g):=by
 refine⟨by simp[World.setCell,ub,h],?_⟩;exact dY (dY (dY (dY (dY (dY (dY (bM _ _) _ _ _) _ _ _) _ _ _) _ _ _) _ _ _) _ _ _) _ _ _
def RA{z:ao}{N:Nat}{VR:bt}(cb:Ah en)(cy:yH en)(ca:cK ok W az na VR)(cC:az.length<=nc)(hZ:z.length<=342)(cz:aC<=50000)(hw:WT aC z (jO l az))(hD:Done aC z (fq en aC N (jO l az)))(hN:∀X,cm W X none->Calls prog 27 #[af nk nn np nz na az.length nc,.slice sa s.length sc,.slice la l.length lc] X λe w'=>e =.returned (.bool true)/\cm X w' none)
 (hT:∀X,cm W X none->∀O:br,(∀b,O b->W.heap.size<=b)->Calls prog 28 #[.slice la l.length lc] X (IV O X l.reverse)) (hgas:bD aC):Calls prog 10 #[.agg #[.i en.self,.i en.sender,.i en.amount,.i en.balance],af nk nn np nz na az.length nc,.slice sa s.length sc,.slice la l.length lc,.i aC] W (PN W (rsO (fq en aC N (jO l az)))):=by
 have HS:=jh (DD en);rw[cb]at HS;have⟨HN,HT,cn,cr⟩:=JT hN hT hgas ca;have ad:Hid (∀O5 w5 mb,dm W.heap.size O5 w5 mb en aC (jO l az)->Calls prog 30 #[.po mb] w5 (jK W.heap.size O5 w5 mb en aC (fq en aC N (jO l az)))):=λO5 w5 mb hM=>VF cy hw hZ cz hM N (uW hD);have HD:=jh hD;have cq:=jh cC;clear cb hN hT hgas ca hw hZ cy cz hD cC;unfold af at HN|-;generalize hQ:PN W (rsO (fq en aC N (jO l az)))=Q;have HQ:=jh hQ;clear hQ;have P:=jh (PS W (.cells #[.i en.self,.i en.sender,.i en.amount,.i en.balance] 23) (.cells #[.i nk,.i nn,.i np,.string nz,.slice na az.length nc] 26) (.cells #[.i 0,.n0,.i 0,.i 0,.i 0,.string ⟨#[]⟩,.n0,.n0,.n0,.i 0,.i 0] 38));go_enter func10,ntmps10
 go_upto_region 1 with (fail)
 generalize ((W.alloc _).alloc _).alloc _=W3 at *;have cu:cm W3 W3 none:=bM _ _;have K5:=λ(w':bx) (h:cm W3 w' none)=>And.intro (WY (l5 P.2.1 h)) (bE (l5 P.2.2.1 h))
 go_upto_region 3 with (first
  | (go_at_call 26;(with_reducible refine (HS.out _).mono ?_);rintro e H ⟨rfl,ah⟩;have cf:=aJ cu ah;clear ah)
  | (go_at_call 27;(with_reducible refine (HN.out _ (aJ P.out.1 cf)).mono ?_);rintro e H ⟨rfl,ah⟩;have d:=aJ cf ah;clear ah))
 go_cut [11] (λpv wx=>∃mb O,pv =.po mb/\dm W.heap.size O wx mb en aC ⟨0,0,zeroVa,l,[]⟩/\cm H wx none/\∀b,O b->H.heap.size<=b)
 case first =>
  have cw:W.heap.size<=H.heap.size:=kl P.out.1.size d.size;have hd:cm H H.drew none:=fK (bM _ _);refine wR (cs:=[((4:Nat),λw:bx=>cm W3 w none)]) 7 oA oA ?_;refine ry (i:=0) (k:=4) (some 25) (bL (.inr (fK d)) fP) (.head _) (Or.inl ⟨by rfl,λw hw=>by have hk:=K5 w hw;go_simp;with_reducible rfl⟩) ?_ (hi:=rfl);simp only[Act.put,zc,xj,xf];refine dN (i:=1) (some 26) (bL (.inr (fK d)) fP) ?_;simp only[Act.put,zc,xj,xf];refine dN (i:=2) (some 27) (bL (.inr (fK d)) fP) ?_;simp only[Act.put,zc,xj,xf];refine gU (rs:=[3,5]) oA rfl (iE.cons rfl (λK c=>?_) (iE.cons rfl (λK c=>?_) iE.nil))
  .go_simp;refine (HT H.drew (aJ (aJ P.1 d) hd) (H.heap.size <= ·) (λb S=>od)).mono ?_;rintro e X ⟨sv,us,rfl,J,hg⟩;obtain⟨T,U,rfl,cM⟩:=J.slice;rw[ud]at J;have cv:cm W3 X none:=aJ (aJ d hd) hg;have ck:(Value.slice T l.length U).ownBlock≠some X.heap.size:=λe=>by have:=(zd J.own _ e).2;omega
   have A:=jj X (.cells ma0 65);have⟨O,hM,j,hO⟩:=DW (en:=en) cw hd hg (aK _) (kl hd.size hg.size) A J ck cn;refine c _ _ (bL (.inr cv) fP) ?_;clear c K;refine gU (rs:=[4,5]) oA rfl (iE.cons rfl (λK c=>?_) (iE.cons rfl (λK c=>?_) iE.nil))
   .go_simp;refine c _ _ (bL (.inl rfl) fP) ?_;clear c K;refine gU (rs:=[5]) oA rfl (iE.cons rfl (λK c=>?_) iE.nil);go_simp;refine c _ _ (bL (.inl rfl) fP) ?_;clear c K;refine gU (rs:=[6]) oA rfl (iE.cons rfl (λK c=>?_) iE.nil);rw[if_pos (show Region.wanted _ _ from rfl)];refine Fx 65 _ _ rfl rfl rfl A rfl oA oA ?_;refine c _ _ (bL (.inl rfl) fP) ?_;clear c K;refine uP oA ?_ _;go_wp2_with fail;go_meet;exact⟨_,O,rfl,hM,j,hO⟩
   .go_simp;refine c _ _ (bL (.inr (aJ cv (aK _))) fP) ?_;clear c K;refine gU (rs:=[4]) oA rfl (iE.cons rfl (λK c=>?_) iE.nil);go_simp;refine c _ _ (bL (.inl rfl) fP) ?_;clear c K;refine gU (rs:=[6]) oA rfl (iE.cons rfl (λK c=>?_) iE.nil);rw[if_pos (show Region.wanted _ _ from rfl)];refine Fx 65 _ _ rfl rfl rfl A rfl oA oA ?_;refine c _ _ (bL (.inl rfl) fP) ?_;clear c K;refine uP oA ?_ _;go_wp2_with fail;go_meet;exact⟨_,O,rfl,hM,j,hO⟩
  .go_simp;refine c _ _ (bL (.inr (aJ (fK d) (aK _))) fP) ?_;clear c K;refine gU (rs:=[3]) oA rfl (iE.cons rfl (λK c=>?_) iE.nil);go_simp;have ch:cm H (H.drew.alloc (.cells ma0 65)) none:=aJ hd (aK _);have cA:=jj H.drew (.cells ma0 65);refine (HT (H.drew.alloc (.cells ma0 65)) (aJ (aJ P.1 d) ch) (H.heap.size <= ·) (λb S=>od)).mono ?_;rintro e X ⟨sv,us,rfl,J,hg⟩;obtain⟨T,U,rfl,cM⟩:=J.slice;rw[ud]at J;have A:=l5 cA hg;have ck:(Value.slice T l.length U).ownBlock≠some H.drew.heap.size:=λe=>by have:=(zd J.own _ e).1;rw[ye]at this;omega
   have⟨O,hM,j,hO⟩:=DW (en:=en) cw ch hg (bM _ _) hd.size A J ck cn;refine c _ _ (bL (.inr (aJ (aJ d ch) hg)) fP) ?_;clear c K;refine gU (rs:=[4]) oA rfl (iE.cons rfl (λK c=>?_) iE.nil);go_simp;refine c _ _ (bL (.inl rfl) fP) ?_;clear c K;refine gU (rs:=[6]) oA rfl (iE.cons rfl (λK c=>?_) iE.nil);rw[if_pos (show Region.wanted _ _ from rfl)];refine Fx 65 _ _ rfl rfl rfl A rfl oA oA ?_;refine c _ _ (bL (.inl rfl) fP) ?_;clear c K;refine uP oA ?_ _;go_wp2_with fail;go_meet;exact⟨_,O,rfl,hM,j,hO⟩
 case rest =>
  obtain⟨mb,O,rfl,hM,j,hO⟩:=hcut;have hk:=K5 wc (aJ d j);have cd:Hid (Calls prog 29 #[.po mb,.agg #[.slice na az.length nc,.i 0,.n0,.n0]] wc (K8 W.heap.size O wc mb en aC (jO l az))):=Dp (f:=⟨az,0,[],[]⟩) (VW:=λ_=>.i 0) (VA:=λ_=>.i 0) hM (zv _) ⟨show (0:Int)≠67 by decide,I64_0⟩ ((cr.ae (ok':=λb=>¬O b) λb S _ h=>by have:=hO b h;have:=d.size;have:=P.out.1.size;omega).same (λb o _ G=>qt ((aJ (aJ P.1 d) j).block b G ot))) (cK.nil _ _ _ _) (aT.nil _ _ _ _) ⟨cq,qS _,qS _⟩
  have HO:=jh hO;have cF:Hid (cm W wc none):=aJ (aJ P.1 d) j;have I:=jh (l5 P.2.2.2 (aJ d j));have cp:Hid (W.heap.size+1+1<H.heap.size):=kh (qq.1 P.2.2.2).1 d.size;have cc:Hid (∀O6 g wf,dB O wc O6 g->cm g wf none->cm W wf none/\wf.heap[W.heap.size+1+1]?=some (.cells rs0 38)):=λO6 g wf hF hg=>by refine⟨aJ (Ny cF hF λb S=>by have:=HO.out b S;have:=cp.out;omega) hg,l5 ((hF.block _ (qq.1 I).1 λh=>?_).trans I) hg⟩;have:=HO.out _ h;have:=cp.out;omega
  clear hM j hO K5 P HT HN HS cu cf d cr cq
  cases ho:fq en aC N (jO l az)with
  | stuck=>exact absurd ho (uW HD)
  | no er m =>
   rw[ho]at ad HD HQ;clear ho;have hE:=HD.out.2
   by_cases ba:er=10
   .subst ba;have hz:=(hE.resolve_right od).2.2
    go_upto_region 7 with (first
     | (go_at_call 29;(with_reducible refine cd.out.mono ?_);rintro e w5 ⟨rfl,O5,r,u⟩;have Y:=jh r;have ab:=jh u;clear r u)
     | (go_at_call 30;(with_reducible refine (ad.out _ _ _ ab.out).mono ?_);rintro e g ⟨O6,t,_,rfl,m',e1,e2,k,n,a,s',aa,al,ac,T,tl,U,B,nl,C,sv,fv,us,fs,R⟩;have z6:=iM R.blk;rw[e1]at z6;have HL:=Ca g #[.i 10,.n0,.i 0,.i 0,.i 0,.string ⟨#[]⟩,.n0,.n0,.n0,.i m.paid,.i 0];have D:=jh (Y.out.trans t);have H6:=jh R;have ct:=jh R.said;rw[e2]at ct;clear t R e1 e2)
     | (refine sH rfl 38 _ _ rfl rfl rfl (jj _ _) rfl oA oA ?_))
    simp only[rs0]at HL;generalize World.setRow _ _ _=M at *;have z7:=zN HL.2;have z8:=WW (l5 H6.blk HL.1);have A:=jj M (.cells #[.i k,.i n,.i a,.string s',.slice aa al ac,.slice T tl U,.slice B nl C] 36);have cI:Hid (Calls prog 31 #[.o (M.heap.size) 1 1] (M.alloc (.cells #[.i k,.i n,.i a,.string s',.slice aa al ac,.slice T tl U,.slice B nl C] 36)) (Tu (M.alloc (.cells #[.i k,.i n,.i a,.string s',.slice aa al ac,.slice T tl U,.slice B nl C] 36)) [m.said])):=by
     have hL:=((ct.ae (ok':=λ_=>True) λ_ _ _=>trivial).same (ni (aJ HL.1 (aK (.cells #[.i k,.i n,.i a,.string s',.slice aa al ac,.slice T tl U,.slice B nl C] 36)))));refine zT (V:=λ_=>bg k n a s' aa al ac T tl U B nl C) (a:=some ⟨M.heap.size,0,none⟩) (l:=[m.said]) (ok:=λ_=>True) ⟨by unfold maxLen;simp,λi hi=>?_,λi hi=>?_⟩ (by simp[vsizes];omega) (λx hx=>by simp at hx;subst hx;omega) ot
     .obtain rfl:i=0:=by simpa using hi
      exact⟨_,_,rfl,trivial,k,n,a,s',aa,al,ac,T,tl,U,B,nl,C,rfl,ot⟩
     .obtain rfl:i=0:=by simpa using hi
      exact hL
    have E:=jh HL;clear HL z6 hk hE A;simp only[Act.put]
    go_upto_region 12 with ((go_at_call 31;(refine cI.mono ?_);rintro e w9 ⟨a3,c3,V3,rfl,bb,L,ai⟩;obtain⟨b,o,rfl,S,k2,n2,a2,s2,ax,oJ,ay,bp,sM,bq,bh,bm,bl,hv,cx⟩:=L.2.1 0 ot;have bf:=L.2.2 0 ot;rw[hv]at bf;simp only[jb4,qd5,jb6,ue]at cx bf bb;have aj:=aJ (aK _) ai;have F:=l5 E.2 aj;have z9:=zN F;have au:=jh (XD F (.i k2) (.i n2) (.i a2) (.string s2) (.slice ax oJ ay) (.slice bp sM bq) (.slice bh bm bl));have cH:=jh bf;have cG:=jh aj;clear L ai bf aj F))
    generalize World.setCell _ _ _=wf at *;have cP:=zN au.1;have ar:cm g wf none:=aG (aJ E.1 cG) au.2 (qS _);have⟨q,y⟩:=cc.out _ _ _ D ar;have Z:Hid (Q (.returned (.agg #[.i 10,.n0,.i k2,.i n2,.i a2,.string s2,.slice ax oJ ay,.slice bp sM bq,.slice bh bm bl,.i m.paid,.i 0])) (wf.setRow (W.heap.size+1+1) #[.i 10,.n0,.i k2,.i n2,.i a2,.string s2,.slice ax oJ ay,.slice bp sM bq,.slice bh bm bl,.i m.paid,.i 0])):=by
     rw[<-HQ.out];have cL:W.heap.size+1+1<g.heap.size/\g.heap.size<M.heap.size:=⟨kh (qq.1 I).1 D.size,(qq.1 E.2).1⟩;refine⟨_,rfl,⟨none,0,λ_=>.i 0,k2,n2,a2,s2,ax,oJ,ay,bp,sM,bq,bh,bm,bl,rfl,qS _,aT.nil _ _ _ _,?_⟩,aG q (mQ _ _ _) od⟩;refine (cH.same (λb o S G=>?_)).ae (λb _ S=>?_)
     .rw[ye]at S;exact qt (((mQ _ _ _).block b (kh G au.2.size) (λe=>by cases e;omega)).trans (au.2.block b G (λe=>by cases e;omega)))
     .rw[ye]at S;omega
    clear z9 z7 z8 cx q hz S bb;go_wp2_with (refine sH rfl 38 _ _ rfl rfl rfl y rfl oA oA ?_);exact xT (results_cell_row results10 _ _ (W.heap.size+1+1) _ _ _ _ rfl (nZ y) underlying38 rfl oA) rfl Z
   .have b0:(er==0)=false:=by simp;omega
    have cQ:(er==10)=false:=by simpa using ba
    go_upto_region 7 with (first
     | (go_at_call 29;(with_reducible refine cd.out.mono ?_);rintro e w5 ⟨rfl,O5,r,u⟩;have Y:=jh r;have ab:=jh u;clear r u)
     | (go_at_call 30;(with_reducible refine (ad.out _ _ _ ab.out).mono ?_);rintro e g ⟨O6,t,_,rfl,m',e1,e2,k,n,a,s',aa,al,ac,T,tl,U,B,nl,C,sv,fv,us,fs,R⟩;have z6:=iM R.blk;rw[e1]at z6;have HL:=Ca g #[.i er,.n0,.i 0,.i 0,.i 0,.string ⟨#[]⟩,.n0,.n0,.n0,.i m.paid,.i 0];have D:=jh (Y.out.trans t);have H6:=jh R;clear t R e1)
     | (refine sH rfl 38 _ _ rfl rfl rfl (jj _ _) rfl oA oA ?_))
    simp only[rs0]at HL;generalize World.setRow _ _ _=M at *;have z7:=zN HL.2;have⟨q,y⟩:=cc.out _ _ _ D HL.1;have Z:Hid (Q (.returned (.agg #[.i er,.n0,.i 0,.i 0,.i 0,.string ⟨#[]⟩,.n0,.n0,.n0,.i m.paid,.i 0])) (M.setRow (W.heap.size+1+1) #[.i er,.n0,.i 0,.i 0,.i 0,.string ⟨#[]⟩,.n0,.n0,.n0,.i m.paid,.i 0])):=by rw[<-HQ.out];refine⟨_,rfl,?_,aG q (mQ _ _ _) od⟩;rw[show rsO (.no er m)=⟨er,[],zeroVa,m.paid,0⟩ by simp only[rsO,if_neg ba]];exact Wp _ _
    clear HL z6 hk q hE ba;simp only[Act.put];go_wp2_with (refine sH rfl 38 _ _ rfl rfl rfl y rfl oA oA ?_);exact xT (results_cell_row results10 _ _ (W.heap.size+1+1) _ _ _ _ rfl (nZ y) underlying38 rfl oA) rfl Z
  | go m =>
   rw[ho]at ad HD;rw[ho]at HQ;clear ho
   go_upto_region 7 with (first
    | (go_at_call 29;(with_reducible refine cd.out.mono ?_);rintro e w5 ⟨rfl,O5,r,u⟩;have Y:=jh r;have ab:=jh u;clear r u)
    | (go_at_call 30;(with_reducible refine (ad.out _ _ _ ab.out).mono ?_);rintro e g ⟨O6,t,rfl,k,n,a,s',aa,al,ac,T,tl,U,B,nl,C,sv,fv,us,fs,R⟩;have z6:=iM R.blk;have HL:=Ca g #[.i 0,.n0,.i 0,.i 0,.i 0,.string ⟨#[]⟩,.n0,.n0,.n0,.i m.paid,.i 0];have D:=jh (Y.out.trans t);have H6:=jh R;clear t R)
    | (refine sH rfl 38 _ _ rfl rfl rfl (jj _ _) rfl oA oA ?_))
   simp only[rs0]at HL;generalize World.setRow _ _ _=M at *;have z7:=zN HL.2;have E:=jh HL;clear HL z6 hk;simp only[Act.put]
   go_upto_region 9 with (fail)
   have p:cm g M.drew none:=fK E.1;have cJ:Hid (Calls prog 28 #[sv] M.drew (IV O6 M.drew m.st)):=by have h:=Cy (H6.grow p).jL.src (by have:=HD.out.2.2.2.2.2;simp;omega);rw[jf4]at h;exact h
   refine wR (cs:=[((2:Nat),λw:bx=>cm g w none),((9:Nat),λw:bx=>cm g w none)]) 10 oA oA ?_;refine dN (i:=0) (some 43) (bL (.inr p) (bL (.inr p) fP)) ?_;simp only[Act.put,zc,xj,xf];refine ry (i:=1) (k:=2) (some 44) (bL (.inr p) (bL (.inr p) fP)) (.head _) (Or.inl ⟨by rfl,λw hw=>by have hk:=iM (l5 H6.out.blk hw);go_simp;with_reducible rfl⟩) ?_ (hi:=rfl);simp only[Act.put,zc,xj,xf];refine dN (i:=4) (some 47) (bL (.inr p) (bL (.inr p) fP)) ?_;simp only[Act.put,zc,xj,xf];refine ry (i:=5) (k:=9) (some 48) (bL (.inr p) (bL (.inr p) fP)) (.tail _ (.head _)) (Or.inl ⟨by rfl,λw hw=>by have hk:=iM (l5 H6.out.blk hw);go_simp;with_reducible rfl⟩) ?_ (hi:=rfl);simp only[Act.put,zc,xj,xf];refine gU (rs:=[2]) oA rfl (iE.cons rfl (λK c=>?_) iE.nil);go_simp;refine cJ.out.mono ?_;rintro e w8 ⟨v,cS,rfl,J,bc⟩;obtain⟨a2,c2,rfl,cR⟩:=J.slice;have cE:cm g w8 none:=aJ p bc;refine c.out _ _ (bL (.inl rfl) (bL (.inr cE) fP)) ?_;clear c K;refine gU (rs:=[3]) oA rfl (iE.cons rfl (λK c=>?_) iE.nil);go_simp;refine (Xz J bc HD.out.2.2.2.2.1 HD.out.2.2.2.2.2).mono ?_;rintro e w9 ⟨a3,c3,V3,rfl,bb,L,ai⟩;have cl:cm g w9 none:=aJ cE ai;refine c.out _ _ (bL (.inl rfl) (bL (.inr cl) fP)) ?_;clear c K;have F:=l5 E.out.2 (aJ (fK (bM M none)) (aJ bc ai));have z9:=zN F;have cj:=(Wq F (.slice a3 m.st.length c3)).1;have cN:=zN cj;have cD:=(Wq cj (.i m.aO)).2;refine dN (i:=6) (some 49) (bL (.inl rfl) (bL (.inr cl) fP)) ?_;simp only[Act.put,zc,xj,xf];have aq:cm g (w9.setCell ⟨g.heap.size,1,none⟩ (.slice a3 m.st.length c3)) none:=aG cl (dY (bM _ _) _ _ _) (qS _);refine gU (rs:=[7]) oA rfl (iE.cons rfl (λK c=>?_) iE.nil);go_simp;refine c.out _ _ (bL (.inl rfl) (bL (.inr aq) fP)) ?_;clear c K;refine dN (i:=8) (some 50) (bL (.inl rfl) (bL (.inr aq) fP)) ?_;simp only[Act.put,zc,xj,xf];refine gU (rs:=[9]) oA rfl (iE.cons rfl (λK c=>?_) iE.nil);go_simp;refine c.out _ _ (bL (.inl rfl) (bL (.inl rfl) fP)) ?_;clear c K;have ar:cm g ((w9.setCell ⟨g.heap.size,1,none⟩ (.slice a3 m.st.length c3)).setCell ⟨g.heap.size,10,none⟩ (.i m.aO)) none:=aG aq (dY (bM _ _) _ _ _) (qS _);refine uP oA ?_ _;have cP:=zN cD;clear z7 z9 cN cj F;have⟨q,y⟩:=cc.out _ _ _ D.out ar;have Z:Hid (Q (.returned (.agg #[.i 0,.slice a3 m.st.length c3,.i 0,.i 0,.i 0,.string ⟨#[]⟩,.n0,.n0,.n0,.i m.paid,.i m.aO])) (((w9.setCell ⟨g.heap.size,1,none⟩ (.slice a3 m.st.length c3)).setCell ⟨g.heap.size,10,none⟩ (.i m.aO)).setRow (W.heap.size+1+1) #[.i 0,.slice a3 m.st.length c3,.i 0,.i 0,.i 0,.string ⟨#[]⟩,.n0,.n0,.n0,.i m.paid,.i m.aO])):=by
    rw[<-HQ.out];have cL:W.heap.size+1+1<g.heap.size/\g.heap.size<w8.heap.size:=⟨kh (qq.1 I).1 D.size,kh (qq.1 E.2).1 bc.size⟩;refine⟨_,rfl,⟨a3,c3,V3,_,_,_,_,_,_,_,_,_,_,_,_,_,rfl,bb,?_,rV _ _⟩,aG q (mQ _ _ _) od⟩;refine (L.same (λb o S G=>?_)).ae (λb _ S=>?_)
    .exact qt (((mQ _ _ _).block b (by simpa using G) (λe=>by cases e;omega)).trans ((dY (dY (bM w9 (some g.heap.size)) _ _ _) _ _ _).block b G (λe=>by cases e;omega)))
    .have:=q.size;omega
   clear L J q;go_wp2_with (refine sH rfl 38 _ _ rfl rfl rfl y rfl oA oA ?_);exact xT (results_cell_row results10 _ _ (W.heap.size+1+1) _ _ _ _ rfl (nZ y) underlying38 rfl oA) rfl Z
def Vb{b:Bool}(d:Ah en=b)(hN:b->∀j,cm W j none->Calls prog 27 #[af nk nn np nz na az.length nc,.slice sa s.length sc,.slice la l.length lc] j λe w'=>e =.returned (.bool false)/\cm j w' none) :
 Calls prog 10 #[.agg #[.i en.self,.i en.sender,.i en.amount,.i en.balance],af nk nn np nz na az.length nc,.slice sa s.length sc,.slice la l.length lc,.i aC] W (PN W (rsO .stuck)):=by
 have o:=jh (DD en);rw[d]at o;have g:=jh hN;clear d hN;unfold af at g|-;generalize p:PN W (rsO .stuck)=Q;have q:=jh p;clear p;have f:=jh (PS W (.cells #[.i en.self,.i en.sender,.i en.amount,.i en.balance] 23) (.cells #[.i nk,.i nn,.i np,.string nz,.slice na az.length nc] 26) (.cells rs0 38));have k:Hid (∀w',cm W w' none->Q (.returned (.agg #[.i 14,.n0,.i 0,.i 0,.i 0,.string ⟨#[]⟩,.n0,.n0,.n0,.i 0,.i 0])) (w'.setRow (W.heap.size+1+1) #[.i 14,.n0,.i 0,.i 0,.i 0,.string ⟨#[]⟩,.n0,.n0,.n0,.i 0,.i 0])):=λw' r=>by rw[<-q.out];exact⟨_,rfl,Wp _ _,aG r (mQ _ _ _) od⟩
 cases b
 all_goals
  try replace g:=jh (g rfl)
  go_enter func10,ntmps10
  go_upto_region 1 with (fail)
  simp only[rs0]at f;generalize ((W.alloc _).alloc _).alloc _=m at *;have n:cm m m none:=bM _ _;have t:=λ(w':bx) (h:cm m w' none)=>And.intro (WY (l5 f.2.1 h)) (bE (l5 f.2.2.1 h));go_wp2_with (first
   | (go_at_call 26;(with_reducible refine (o.out _).mono ?_);rintro e u ⟨rfl,c⟩;have a:=aJ n c;clear c)
   | (go_at_call 27;(with_reducible refine (g.out _ (aJ f.out.1 a)).mono ?_);rintro e j ⟨rfl,c⟩;replace a:=aJ a c;clear c)
   | (refine sH rfl 38 _ _ rfl rfl rfl (l5 f.2.2.2 a) rfl oA oA ?_))
  exact xT (results_cell_row results10 _ _ (W.heap.size+1+1) _ _ _ _ rfl (nZ (l5 f.2.2.2 a)) underlying38 rfl oA) rfl (k _ (aJ f.1 a))
end
open Pe
def Xc (en:En):A1:=.agg [.d (.v (.i en.self)),.d (.v (.i en.sender)),.d (.v (.i en.amount)),.d (.v (.i en.balance))]
def YW (r:Rs):A1:=.agg [.d (.v (.i r.code)),.d (.s 7 (vasD r.stack)),.d (.v (.i r.said.k)),.d (.v (.i r.said.n)),.d (.v (.i r.said.a)),.d (.v (.string r.said.s)),.d (.s 7 (vasD r.said.args)),.d (.s 2 (tysD r.said.types)),.d (.s 5 (ndsD r.said.code)),.d (.v (.i r.aC)),.d (.v (.i r.aO))]
def TZ{ok:br}{w:bx}{en:En}{v:cg}(h:gm (λ_=>none) ok w (Xc en) v):v =.agg #[.i en.self,.i en.sender,.i en.amount,.i en.balance]:=by
 obtain⟨k,rfl,h⟩:=h
 match k,h with
 | [a,b,c,d],⟨e,f,g,j,_⟩ =>
  rw[bW e,bW f,bW g,bW j]
def XC{ok:br}{w:bx}{r:Rs}{v:cg}(h:WQ ok w r v):iZ (λ_=>none) ok w (.of (YW r)) v:=by obtain⟨sa,sc,V,k,n,a,s,y,al,z,B,tl,C,na,A,nc,rfl,l,j,i⟩:=h;have⟨b,c,u,x,m,o,e,p,q,t⟩:=y9 i;simp only[bg,qd4,qe4,xo,jc5,Value.string.injEq,true_and,and_true]at e;obtain⟨rfl,rfl,rfl,rfl,d,f,g⟩:=e;rw[d,f,g];exact⟨_,rfl,.v _,yu j l,.v _,.v _,.v _,.v _,p,q,t,.v _,.v _,trivial⟩
def Z8{en:En}{n:Tr}{s:ao}{l:an}{aC:Int}(hn:okN n)(M:n.size<=4611686018427387904)(X:okTs s)(W:okVs l)(h6:l.length<=10000000)(hz:∀x∈l,x.size<=6000000)(z:bD aC)(I:aC<=50000) :
 Hd ⟨10,[Xc en,ndA n,dZ s,qi l,iA aC],.of (YW (Fy en n s l aC))⟩:=⟨vT func10,λok w vs h=>by
 match vs,h with
 | [ev,Z,sv,Y,gv],⟨he,C,D,A,J,_⟩ =>
  have hM:=(Pn hn M X W hz (λe h=>EO h)).runN rfl;have d:∀g,cm w g none->Calls prog 27 #[Z,sv,Y] g λe p=>e =.returned (.bool (rW n s l))/\cm g p none:=λg q=>by have k:zH ok w ok g:=⟨q.size,λb F h=>⟨h,λo=>qt (q.block b F ot)⟩⟩;refine (hM ok g [Z,sv,Y] ⟨C.keep k (λ_ _ h=>h),D.keep k (λ_ _ h=>h),A.keep k (λ_ _ h=>h),trivial⟩).mono ?_;rintro e p ⟨z,v,rfl,hv⟩;exact⟨by rw[bW hv],z⟩
  obtain rfl:=TZ he;obtain rfl:gv =.i aC:=bW J;have hL:=oK hn C;obtain⟨_,nk,nn,np,nz,na,nc,t,rfl,j⟩:=qL hL;obtain⟨sa,sc,VS,rfl,ah,ab⟩:=jR X (.inl rfl) D;obtain⟨la,lc,VL,rfl,ad,H⟩:=lV W (.inl rfl) A;have⟨P,n1,Q,R,az⟩:=n;simp only[Tr.args0,Tr.nd.injEq,and_true]at t j d|-;obtain⟨rfl,rfl,rfl,rfl⟩:=t;have fin:∀(r:Rs) (e:Ending) (p:bx),PN w r e p->cm w p none/\∃v,e =.returned v/\iZ (λ_=>none) (λb=>ok b\/w.heap.size<=b) p (.of (YW r)) v:=λr e p ⟨v,e1,hr,z⟩=>by have⟨sa,sc,V,k,n,a,s,aa,al,ac,ta,tl,tc,na,nl,nc,e2,u,hV,hS⟩:=hr;exact⟨z,v,e1,XC ⟨sa,sc,V,k,n,a,s,aa,al,ac,ta,tl,tc,na,nl,nc,e2,u,hV.ae (λb _ h=>.inr h),hS.ae (λb _ h=>.inr h)⟩⟩
  by_cases G:Ah en/\rW (.nd P n1 Q R az) s l
  .unfold Fy;rw[if_pos G];have⟨m,B⟩:=G;have⟨⟨f,x,u⟩,U⟩:=zb.1 B;have y:=Md m;have hx:=uV u;have T:x.length<=342:=by omega
   have E:f=false->x=x:=λ_=>rfl;have⟨N,S⟩:=Cg (aC:=aC) y u E T U hz;rw[xA (uW S)];have⟨L,c⟩:az.length<=nc/\∃V,cK ok w az na V:=by have⟨_,h1,V,h2⟩:=rep_rowN _ (qS _) hn.2 j;exact⟨h1,V,h2⟩
   have⟨VR,c⟩:=c;rw[B]at d;exact (RA m y c L T I (Gg u E U hz) S d (λg q O hO=>Cy (Src.row ((H.ae (ok':=λb=>¬O b) λb F _ h=>by have:=hO b h;omega).same (λb o _ K=>qt (q.block b K ot)))) od) z).mono (fin _)
  .unfold Fy;rw[if_neg G];refine (Vb (b:=Ah en) (s:=s) (l:=l) (az:=az) rfl (λF g q=>?_)).mono (fin _);have:=d g q;rw[show rW (.nd P n1 Q R az) s l=false by cases h:rW (.nd P n1 Q R az) s l with|false=>rfl|true=>exact absurd ⟨F,h⟩ G]at this;exact this⟩
def aay{s:ao}(a:s≠[])(hn:s.length<=20000000):∀p∈[rowsLe (tysD s) (tysD s),UU 32 0 [] (tysD s),0+(tysD s).length=(tysD s).length],p :=
 al (rows_refl _) (al (za ot (by cases s<;>simp_all [tysD]) (Ey s) vn ov) (al (qa4 _) al0))
def aaB{l:an}(a:l≠[])(hn:l.length<=20000000):∀p∈[rowsLe (vasD l) (vasD l),UU 112 0 [] (vasD l),0+(vasD l).length=(vasD l).length],p :=
 al (rows_refl _) (al (za ot (by cases l<;>simp_all [vasD]) (zt l) ON ov) (al (qa4 _) al0))
def Z6{s:ao}(a:s≠[])(hn:s.length<=20000000):HdF 9 [dZ s] (.rM 54 2 (tysD s)) :=
 aaO func9 [] [] ot [] (aay a hn)
def H_types0:Hd ⟨9,[dZ []],.of nilA⟩:=runT func9 [(4,nilA)] [] (ob:=[some (AV.of nilA)=some (.of nilA)/\([]:List (List D))=[]/\nilA.isS=true]) (al ⟨rfl,rfl,rfl⟩ al0)
def ZR{l:an}(a:l≠[])(hn:l.length<=20000000):HdF 11 [qi l] (.rM 36 7 (vasD l)) :=
 aaO func11 [] [] ot [] (aaB a hn)
def H_values0:Hd ⟨11,[qi []],.of nilA⟩:=runT func11 [(4,nilA)] [] (ob:=[some (AV.of nilA)=some (.of nilA)/\([]:List (List D))=[]/\nilA.isS=true]) (al ⟨rfl,rfl,rfl⟩ al0)
def Tm{l:ao}(hk:okTs l)(hn:l.length<=20000000):Hd ⟨9,[dZ l],.of (dZ l)⟩:=by
 rcases l with _|⟨T,l⟩
 .exact H_types0.conv (λ_ _ _ h=>h) λok w v h=>gG (show fI ok w (.s 0 []) v from h)
 .exact runT func9 [] [] (aay ot hn)
def Pt{l:an}(hk:okVs l)(hn:l.length<=20000000):Hd ⟨11,[qi l],.of (qi l)⟩:=by
 rcases l with _|⟨x,l⟩
 .exact H_values0.conv (λ_ _ _ h=>h) λok w v h=>gG (show fI ok w (.s 0 []) v from h)
 .exact runT func11 [] [] (aaB ot hn)
set_option maxHeartbeats 1000000
def qR (k:Int):Int:=if k.tmod 3000<0 then k.tmod 3000+3000 else k.tmod 3000
def Rh(k:Int):0<=qR k/\qR k<3000:=by have a:=Int.lt_tmod_of_pos k (b:=3000) ov;have c:=Int.tmod_lt_of_pos k (b:=3000) ov;unfold qR;split<;>omega
def Rj(k:Int)(hk:bD k)(w:bx):Calls prog 32 #[.i k,.i 3000] w λe w'=>e =.returned (.i (qR k))/\w'=w:=by
 have⟨f,g⟩:=hk;have c:=Int.lt_tmod_of_pos k (b:=3000) ov;have d:k.tmod 3000<3000:=Int.tmod_lt_of_pos k ov;unfold qR
 by_cases a:k.tmod 3000<0
 .rw[if_pos a];go_enter func32,ntmps32;go_wp2;go_ret;exact⟨rfl,rfl⟩
 .rw[if_neg a];go_enter func32,ntmps32;go_wp2;go_ret;exact⟨rfl,rfl⟩
def WE{k:Int}(hk:bD k):Hd ⟨12,[iA k],.of (iA (qR k))⟩:=by
 have h:Hd ⟨32,[iA k,iA 3000],.of (iA (qR k))⟩:=⟨vT func32,λok w f h=>by
  match f,h with
  | [u,v],⟨c,d,_⟩ =>
   obtain rfl:u =.i k:=bW c;obtain rfl:v =.i 3000:=bW d;exact (Rj k hk w).mono λe g ⟨a,b⟩=>⟨b ▸ bM _ _,_,a,.v _⟩⟩
 exact aF func12 [⟨_,h⟩]
def vW (en:En) (s:ao) (l:an):Bool:=Ah en&&decide (s.length=l.length)&&fitsAll s l
def YR (s:ao) (l:an) (j:Nat):St:=[((0,1),.of (dZ s)),((0,2),.of (qi l)),((0,54),lW (tysD s).length),((0,55),.of (jA j))]
def Nt{s:ao}{l:an}(A:okTs s)(y:okVs l)(r:s.length=l.length)(D:l.length<=100000)(hz:∀x∈l,x.size<=6000000) :
 ∀(k j:Nat),j+k=s.length->vO prog f13.ntmps ⟨gF f13,YR s l j,Zv (fitsAll (s.drop j) (l.drop j)),Zw (fitsAll (s.drop j) (l.drop j))⟩:=λk=>by
 induction k with
 | zero =>
  intro j w;have f:=wH (a:=Int.ofNat j) (b:=((tysD s).length:Int)) vn;have v:fitsAll (s.drop j) (l.drop j):=by rw[jb7 (by omega:l.length<=j)];cases s.drop j<;>rfl
  rw[v];exact xQ (e:=1) [(56,bA false)] [] (ob:=[mD (aQ (decide (Int.ofNat j<((tysD s).length:Int)))) (bA false)]) (al f al0)
 | succ k C =>
  intro j w;have d:j<l.length:=od
  have c:j<s.length:=od
  have f:=is_lt (a:=Int.ofNat j) (b:=((tysD s).length:Int)) vn;have u:=PT (qn d);have B:mD (lW (IntKind.i64.wrap (Int.ofNat j+1))) (jA (j+1)):=yY (zF ot oB oB);have hF:=VJ (okTs_at.1 A _ (kA c)) (okVs_at.1 y _ (kA d)) (hz _ (kA d));have z:=C (j+1) od;rw[qa0 d,qa0 c];have g:∀t a,s[j] =.nd t a->OQ s j t a:=λt a e=>EK (by rw[qn c,e]);simp only[fitsAll];generalize l[j]=x at *;generalize s[j]=T at *;generalize qC T x=b at *;have⟨t,a⟩:=T;have g:=g t a rfl;have⟨m,n,i,q,o,p,h⟩:=x
  cases b with
  | false =>
   rw[Bool.false_and];exact xQ (e:=0) [(56,bA true),(60,.one (.e (tyD (.nd t a)) 0)),(64,.one (.e (vaD (.mk m n i q o p h)) 0))] [⟨_,hF⟩] (ob:=[mD (aQ (decide (Int.ofNat j<((tysD s).length:Int)))) (bA true),OQ s j t a,XT l j (.mk m n i q o p h)]) (al f (al g (al u al0)))
  | true =>
   rw[jb0];exact LG [(56,bA true),(60,.one (.e (tyD (.nd t a)) 0)),(64,.one (.e (vaD (.mk m n i q o p h)) 0)),(68,jA (j+1))] [⟨_,hF⟩] z (ob:=[mD (aQ (decide (Int.ofNat j<((tysD s).length:Int)))) (bA true),OQ s j t a,XT l j (.mk m n i q o p h),mD (lW (IntKind.i64.wrap (Int.ofNat j+1))) (jA (j+1))]) (al f (al g (al u (al B al0))))
def Pg{en:En}{s:ao}{l:an}(I:okTs s)(H:okVs l)(G:l.length<=100000)(J:∀x∈l,x.size<=6000000):Hd ⟨13,[Xc en,dZ s,qi l],aQ (vW en s l)⟩:=by
 have t:(((tysD s).length:Int)=((vasD l).length:Int)) ↔ s.length=l.length:=by rw[eY,qY];omega
 have w:vW en s l=(!((!decide (((tysD s).length:Int)=((vasD l).length:Int)))||decide (en.self<0)||decide (12<=en.self)||decide (en.sender<0)||decide (12<=en.sender)||decide (en.amount<0)||decide (1152921504606846976<en.amount)||decide (en.balance<0)||decide (1152921504606846976<en.balance))&&fitsAll s l):=by
  unfold vW
  congr 1
  rw[qd2];simp only[Ah,zL,Gb,kE,qu,ki,qh4,Bool.or_eq_false_iff,Bool.not_eq_false',qg3,t];omega
 have k:=λh=>Nt I H h G J s.length 0 od;rw[je4,je4]at k;rw[<-t]at k;rw[w];clear w t;generalize fitsAll s l=b at *;generalize u:(!decide (((tysD s).length:Int)=((vasD l).length:Int)))=a;generalize y:(decide (en.self<0))=c;generalize z:(decide (12<=en.self))=d;generalize A:(decide (en.sender<0))=e;generalize B:(decide (12<=en.sender))=f;generalize C:(decide (en.amount<0))=g;generalize v:(decide (1152921504606846976<en.amount))=j;generalize D:(decide (en.balance<0))=m;generalize E:(decide (1152921504606846976<en.balance))=o;have i:∀p∈Xk [(true,jJ (!decide (((tysD s).length:Int)=((vasD l).length:Int))) a),(!a,jJ (decide (en.self<0)) c),(!a && !c,jJ (decide (12<=en.self)) d),(!a && !c && !d,jJ (decide (en.sender<0)) e),(!a && !c && !d && !e,jJ (decide (12<=en.sender)) f),(!a && !c && !d && !e && !f,jJ (decide (en.amount<0)) g),(!a && !c && !d && !e && !f && !g,jJ (decide (1152921504606846976<en.amount)) j),(!a && !c && !d && !e && !f && !g && !j,jJ (decide (en.balance<0)) m),(!a && !c && !d && !e && !f && !g && !j && !m,jJ (decide (1152921504606846976<en.balance)) o)],p:=IM (eT u) (IM (eT y) (IM (eT z) (IM (eT A) (IM (eT B) (IM (eT C) (IM (eT v) (IM (eT D) (IM (eT E) al0))))))))
 by_cases r:(a||c||d||e||f||g||j||m||o)
 .rw [r];refine runT func13 [(12,bA a),(16,bA c),(21,bA d),(26,bA e),(31,bA f),(36,bA g),(41,bA j),(46,bA m),(51,bA o)] [] i (h:=?_);clear i u y z A B C D E;revert r;cases a
  case' false =>
   cases c
   case' false =>
    cases d
    case' false =>
     cases e
     case' false =>
      cases f
      case' false =>
       cases g
       case' false =>
        cases j
        case' false =>
         cases m
         case' false =>
          cases o
  all_goals first|(intro h;exact absurd h ov)|(intro _;kernel_rfl)
 .simp only[qd1,not_or,Bool.not_eq_true]at r;obtain⟨⟨⟨⟨⟨⟨⟨⟨rfl,rfl⟩,rfl⟩,rfl⟩,rfl⟩,rfl⟩,rfl⟩,rfl⟩,rfl⟩:=r;have k:=k (by simpa using u);have F:=wI (S:=YR s l 0) (q:=gF f13=gF f13) rfl i;cases b
  .exact Ce func13 [(12,fA),(16,fA),(21,fA),(26,fA),(31,fA),(36,fA),(41,fA),(46,fA),(51,fA)] [⟨gF f13,YR s l 0,1,[((0,6),aQ false)]⟩] (by intro x n;rw[jx]at n;subst n;exact k) [] F
  .exact Ce func13 [(12,fA),(16,fA),(21,fA),(26,fA),(31,fA),(36,fA),(41,fA),(46,fA),(51,fA)] [⟨gF f13,YR s l 0,2,[]⟩] (by intro x n;rw[jx]at n;subst n;exact k) [] F
section
variable (ok:br) (w:bx)
def Ye:bd->bd->Prop
 | [],[]=>True
 | x::xs,y::ys=>(∀u,fI ok w x u->fI ok w y u)/\Ye xs ys
 | _,_=>False
end
def Ye.at{ok:br}{w:bx} : ∀{r r':bd},Ye ok w r r'->r'.length=r.length/\∀(j:Nat) (x':D),r'[j]?=some x'->∃x,r[j]?=some x/\∀u,fI ok w x u->fI ok w x' u
 | [],[],_=>⟨rfl,λj x h=>by simp at h⟩
 | x::f,y::g,⟨d,e⟩=>by
  have⟨a,b⟩:=Ye.at e;refine⟨by simp[a],λj x' c=>?_⟩
  cases j with
  | zero=>simp at c;subst c;exact⟨x,rfl,d⟩
  | succ j=>exact b j x' (by simpa using c)
def Fu{ok:br}{w:bx}{n:Nat}{r r':bd}{v:cg}(h:Ye ok w r r')(u:fI ok w (.s n [r]) v):fI ok w (.s n [r']) v:=by
 have⟨g,f⟩:=h.at
 cases u with
 | s U l m o k t hz =>
  have a:∀(i:Nat) (q:bd),[r'][i]?=some q->i=0/\q=r':=λi q e=>by
   cases i with
   | zero=>simp at e;exact⟨rfl,e.symm⟩
   | succ i=>simp at e
  refine fI.s (es:=[r']) U l m (λi q e=>?_) (λi q j x b c=>?_) (λi q j x b c=>?_) hz
  .obtain⟨rfl,rfl⟩:=a i q e;rw[g];exact o 0 r rfl
  .obtain⟨rfl,rfl⟩:=a i q b;have⟨y,d,_⟩:=f j x c;exact k 0 r j y rfl d
  .obtain⟨rfl,rfl⟩:=a i q b;have⟨y,d,p⟩:=f j x c;exact p _ (t 0 r j y rfl d)
def runsN:Tr:=.nd 3 0 0 ⟨#[]⟩ [.nd 2 0 40 ⟨#[]⟩ []]
def runs_eq:Fy ⟨0,0,0,0⟩ runsN [.nd 4 []] [.mk 4 3 0 ⟨#[]⟩ [] [] []] 9=⟨0,[],zeroVa,1,0⟩:=by unfold Fy;rw[if_pos ⟨ov,oA⟩,xA (N:=3) (by rw[show fq ⟨0,0,0,0⟩ 9 3 (jO [.mk 4 3 0 ⟨#[]⟩ [] [] []] runsN.args0) =.go ⟨1,0,zeroVa,[],[]⟩ by kernel_rfl];simp)];rw[show fq ⟨0,0,0,0⟩ 9 3 (jO [.mk 4 3 0 ⟨#[]⟩ [] [] []] runsN.args0) =.go ⟨1,0,zeroVa,[],[]⟩ by kernel_rfl];rfl
def dropD:bd:=[.v (.i 2),.v (.i 0),.v (.i 40),.v (.string ⟨#[]⟩),.s 0 []]
def H_seq1:Hd ⟨34,[.one (.d (.s 5 [dropD]))],.of (.agg [.d (.v (.i 3)),.d (.v (.i 0)),.d (.v (.i 0)),.d (.v (.string ⟨#[]⟩)),.d (.s 5 [dropD])])⟩:=aF func34 []
def H_run1:Hd ⟨10,[Xc ⟨0,0,0,0⟩,.agg [.d (.v (.i 3)),.d (.v (.i 0)),.d (.v (.i 0)),.d (.v (.string ⟨#[]⟩)),.d (.s 5 [dropD])],.one (.d (.s 2 [[.v (.i 4),.s 0 []]])),.one (.d (.s 7 [[.v (.i 4),.v (.i 3),.v (.i 0),.v (.string ⟨#[]⟩),.s 0 [],.s 0 [],.s 0 []]])),iA 9],.of (YW ⟨0,[],zeroVa,1,0⟩)⟩:=by
 have f:∀k:Int,-1000<=k->k<=1000->bD k:=λk g j=>⟨od,od⟩;have h:=Z8 (en:=⟨0,0,0,0⟩) (n:=runsN) (s:=[.nd 4 []]) (l:=[.mk 4 3 0 ⟨#[]⟩ [] [] []]) (aC:=9) ⟨⟨f _ ov ov,f _ ov ov,f _ ov ov,zv _⟩,⟨⟨f _ ov ov,f _ ov ov,f _ ov ov,zv _⟩,trivial⟩,trivial⟩ ov ⟨⟨f _ ov ov,trivial⟩,trivial⟩ ⟨⟨⟨f _ ov ov,f _ ov ov,f _ ov ov,zv _⟩,trivial,trivial,trivial⟩,trivial⟩ ov (λx m=>by simp at m;subst m;decide) (f _ ov ov) ov;rw[runs_eq]at h;refine h.conv (λok w D u=>?_) (λ_ _ _ h=>h)
 match D,u with
 | [a,b,c,d,e],⟨g,⟨bs,t,j⟩,o,p,q,_⟩ =>
  match bs,j with
  | [E,F,G,H,I],⟨y,z,A,B,C,_⟩ =>
   exact⟨g,⟨_,t,y,z,A,B,Fu (r:=dropD) (r':=[.v (.i 2),.v (.i 0),.v (.i 40),.v (.string ⟨#[]⟩),.s 5 []]) ⟨λ_ h=>h,λ_ h=>h,λ_ h=>h,λ_ h=>h,λ_ h=>gG h,trivial⟩ C,trivial⟩,Fu (r:=[.v (.i 4),.s 0 []]) (r':=[.v (.i 4),.s 2 []]) ⟨λ_ h=>h,λ_ h=>gG h,trivial⟩ o,Fu (r:=[.v (.i 4),.v (.i 3),.v (.i 0),.v (.string ⟨#[]⟩),.s 0 [],.s 0 [],.s 0 []]) (r':=[.v (.i 4),.v (.i 3),.v (.i 0),.v (.string ⟨#[]⟩),.s 7 [],.s 2 [],.s 5 []]) ⟨λ_ h=>h,λ_ h=>h,λ_ h=>h,λ_ h=>h,λ_ h=>gG h,λ_ h=>gG h,λ_ h=>gG h,trivial⟩ p,q,trivial⟩
def H_runs:Hd ⟨14,[],aQ true⟩:=aF func14 [⟨_,H_seq1⟩,⟨_,H_run1⟩]
def Qc{n:Tr}{s x:ao}{f:Bool}(h:codeF n s =.ok f x):okN n:=by
 unfold codeF at h;split at h
 .cases h
 .rename_i a;exact first_okN n 1 (iV (by simpa using a)).1
def fit_ok:∀(N:Nat) {T:Ty}{v:Va},v.size<=N->Fit T v->okV v:=λN=>by
 induction N with
 | zero=>intro T v A;have:=eP v;omega
 | succ N B =>
  intro T v A h;have⟨y,m,⟨C,r,z⟩,o,e⟩:=iO h;have l:=oM y;have d:∀x∈v.args,okV x:=λx g=>by have⟨U,_,q⟩:=fitS_mem z x g;exact B (by have:=IK g;have:=fO g;have:=eP v;omega) q
  have⟨k,n,a,s,args,types,code⟩:=v;simp only[eX,qu,qd1,ki]at m;have⟨⟨⟨⟨⟨hk,f⟩,j⟩,p⟩,b⟩,c⟩:=m;simp only[Va.k,Va.n,Va.a,Va.s,Va.types,Va.code,Va.args]at hk f j p b c d e r;have⟨t,i⟩:=T;simp only[Ty.t,Ty.args]at *;refine⟨⟨hk ▸ l.1,?_,?_,?_⟩,okVs_at.2 d,?_,?_⟩
  .unfold bQ kE gN lY at f;unfold bD
   repeat' split at f
   all_goals simp at f;omega
  .simp only[lY,ki]at j;unfold bD;omega
  .unfold maxLen;omega
  .unfold eZ at b;split at b
   .match types,b with
    | [u],b=>exact⟨oM b,trivial⟩
   .split at b
    .rw[sameTs_eq _ _ b];exact l.2
    .have : types=[]:=jt (by simpa using b);rw[this];trivial
  .rcases c with c|c
   .rw[jt c];trivial
   .have d:=e (hk.trans c);unfold jG at d;split at d
    .cases d
    .rename_i w;exact (Qc w).2
def T9{s:ao}{l:an}(h:FitS s l):okVs l:=okVs_at.2 λx b=>by have⟨T,_,a⟩:=fitS_mem h x b;exact fit_ok _ (qS _) a
section
variable {en:En}{n:Tr}{s x:ao}{l:an}{f:Bool}{g aC:Int}
def fitsK_iff:vW en s l ↔ Ah en/\FitS s l:=by
 simp only[vW,qu,ki];constructor
 .rintro⟨⟨b,a⟩,c⟩;exact⟨b,(fitsAll_iff a).1 c⟩
 .rintro⟨b,a⟩;exact⟨⟨b,fitS_len a⟩,(fitsAll_iff (fitS_len a)).2 a⟩
def Rz(hc:codeF n s =.ok f x)(r:vW en s l)(k:Sm l):∃N o,fq en g N (jO l n.args0)=o/\Fy en n s l g=rsO o/\Done g x o/\(f->∀m,o ≠ .go m):=by
 have⟨a,hF⟩:=fitsK_iff.1 r;have c:=Md a;have t:=uV hc;have⟨N,b⟩:=Cg (aC:=g) (z:=x) c hc (λ_=>rfl) od hF k;refine⟨N,_,rfl,?_,b,λd m e=>?_⟩
 .unfold Fy;rw[if_pos ⟨a,zb.2 ⟨⟨f,x,hc⟩,hF⟩⟩,xA (uW b)]
 .have⟨M,i⟩:=Cg (aC:=g) (z:=[.nd 1 []]) c hc (λh=>by rw[d]at h;cases h) ov hF k;have p:fq en g N (jO l n.args0)=fq en g M (jO l n.args0):=(xA (uW b)).symm.trans (xA (uW i));rw[<-p,e]at i;rw[e]at b;have q:=fitS_len i.1;have j:=fitS_len b.1;rw[t.2.2 d]at j;simp at q j;omega
def run_stuck(h:(∃e,codeF n s =.no e)\/vW en s l=false):Fy en n s l g=⟨14,[],zeroVa,0,0⟩:=by
 unfold Fy;rw[if_neg ?_]
 .rfl
 .rintro⟨b,c⟩;have⟨⟨f,x,a⟩,hF⟩:=zb.1 c;rcases h with⟨e,d⟩|h
  .rw[d]at a;cases a
  .rw[fitsK_iff.2 ⟨b,hF⟩]at h;cases h
end
def Xd(ok:br)(w:bx)(en:En):gm (λ_=>none) ok w (Xc en) (.agg #[.i en.self,.i en.sender,.i en.amount,.i en.balance]):=⟨[.i en.self,.i en.sender,.i en.amount,.i en.balance],rfl,.v _,.v _,.v _,.v _,trivial⟩
def tlength_le:∀l:ao,l.length<=tysizes l
 | []=>zv _
 | T::l=>by have:=tlength_le l;have⟨t,a⟩:=T;simp only[jn,tysizes,Ty.size];omega
def paidO:Out->Int
 | .stuck=>0
 | .no _ m=>m.paid
 | .go m=>m.paid
def KP (p:Int) (sd:Va) (F:List Fr):Out->Prop
 | .stuck=>True
 | .no _ m=>m.paid=p
 | .go m=>m.paid=p/\m.said=sd/\(m.fr=F\/∃g,m.fr=g::F)
section
variable {p mi:Int}{sd:Va}{st:an}{F:List Fr}
def abo(l:an):KP p sd F (bz ⟨p,mi,sd,st,F⟩ l):=by
 unfold bz
 repeat' split
 all_goals first|exact trivial|exact rfl|exact⟨rfl,rfl,.inl rfl⟩
def aaM(g:Fr)(l:an):KP p sd F (bz ⟨p,mi,sd,st,g::F⟩ l):=by
 unfold bz
 repeat' split
 all_goals first|exact trivial|exact rfl|exact⟨rfl,rfl,.inr ⟨_,rfl⟩⟩
def kp_go:KP p sd F (.go ⟨p,mi,sd,st,F⟩):=⟨rfl,rfl,.inl rfl⟩
def abl(g:Fr):KP p sd F (.go ⟨p,mi,sd,st,g::F⟩):=⟨rfl,rfl,.inr ⟨_,rfl⟩⟩
def abw(e:Int){a:Va}{b:List Fr} : KP p sd F (.no e ⟨p,mi,a,st,b⟩):=rfl
def kp_stuck:KP p sd F .stuck:=trivial
def abn{c:Prop}[Decidable c]{a b:Out}(h:KP p sd F a)(k:KP p sd F b):KP p sd F (if c then a else b):=by split<;>assumption
end
def abm(en:En)(n:Tr)(m:Ma):KP m.paid m.said m.fr (Qy en n m):=by
 have⟨p,mi,sd,st,fr⟩:=m;unfold Qy;dsimp only
 repeat' (with_reducible first|apply abn|exact kp_stuck|exact abo _|exact kp_go|exact abw _|exact aaM _ _|exact abl _|split|(first|unfold p9|unfold l8|unfold il|unfold gJ|unfold mq|unfold gL|unfold xm|unfold jQ|unfold iB|unfold iw|unfold jP|unfold oV|unfold Gu);try dsimp only)
def aa6{en:En}{n:Tr}{m:Ma}{o:Out}(h:Qy en n m=o):KP m.paid m.said m.fr o:=h ▸ abm en n m
section
variable {en:En}{n:Tr}{s:ao}{l:an}{g g':Int}
def abt(en:En)(n:Tr)(s:ao)(i:Sm l):(∀g,Fy en n s l g=⟨14,[],zeroVa,0,0⟩)\/∃x:ao,∀g,∃N,Fy en n s l g=rsO (fq en g N (jO l n.args0))/\Done g x (fq en g N (jO l n.args0)):=by
 by_cases a:∃f x,codeF n s =.ok f x
 .have⟨f,x,a⟩:=a
  cases b:vW en s l with
  | false=>exact .inl λg=>run_stuck (.inr b)
  | true =>
   refine .inr ⟨x,λg=>?_⟩;obtain⟨N,o,rfl,d,h,_⟩:=Rz (g:=g) a b i;exact⟨N,d,h⟩
 .refine .inl λg=>run_stuck (.inl ?_)
  cases e:codeF n s with
  | no c=>exact⟨c,rfl⟩
  | ok f x=>exact absurd ⟨f,x,e⟩ a
end
mutual
def sameN_self:∀t:Tr,Ot uK t t=0
 | .nd k n p s a=>by
  have h:uK (.nd k n p s a) (.nd k n p s a)=0:=by simp[uK]
  rw[Ot,if_neg (by rw[h];simp)];exact sameNs_self a
def sameNs_self:∀l:aE,jk uK l l=0
 | []=>by simp[jk]
 | t::l=>by rw[jk,if_neg (by rw[sameN_self t];simp)];exact sameNs_self l
end
mutual
def sameV_self0:∀x:Va,qg uL x x=0
 | .mk k n a s az b c=>by
  have h:uL (.mk k n a s az b c) (.mk k n a s az b c)=0:=by simp[uL,sameTs_refl,sameNs_self]
  rw[qg,if_neg (by rw[h];simp)];exact sameVs_self0 az
def sameVs_self0:∀l:an,eO uL l l=0
 | []=>by simp[eO]
 | x::l=>by rw[eO,if_neg (by rw[sameV_self0 x];simp)];exact sameVs_self0 l
end
def Wm(x:Va):Ij x x:=by unfold Ij;rw[sameV_self0];rfl
def mapM (a b:Int) (φ:List Fr->List Fr) (m:Ma):Ma:=⟨m.paid+a,m.aO+b,m.said,m.st,φ m.fr⟩
def abx (ψ:Ma->Ma):Out->Out
 | .stuck=>.stuck
 | .no e m=>.no e (ψ m)
 | .go m=>.go (ψ m)
def RO (b:Int) (ψ:Ma->Ma) (o o':Out):Prop:=o =.stuck\/(o'=abx ψ o/\∀m,o =.go m->m.aO+b<=1152921504606846976)\/0<b/\∃m',o' =.no 11 m'
section
variable {en:En}{n:Tr}{a b:Int}{φ:List Fr->List Fr}{m:Ma}
def aaq{ψ:Ma->Ma}{c:Prop}[Decidable c]{x a y d:Out}(h:RO b ψ x a)(k:RO b ψ y d):RO b ψ (if c then x else y) (if c then a else d):=by split<;>assumption
def Tp{ψ:Ma->Ma}(o:Out):RO b ψ .stuck o:=.inl rfl
def aap{p c:Int}{f:Va}{st:an}{d:List Fr}(h:c+b<=1152921504606846976):RO b (mapM a b φ) (.go ⟨p,c,f,st,d⟩) (.go ⟨p+a,c+b,f,st,φ d⟩):=.inr (.inl ⟨rfl,λm e=>by cases e;exact h⟩)
def Y1{e p d:Int}{f:Va}{st:an}{c:List Fr} : RO b (mapM a b φ) (.no e ⟨p,d,f,st,c⟩) (.no e ⟨p+a,d+b,f,st,φ c⟩):=.inr (.inl ⟨rfl,λm e=>by cases e⟩)
def Wj{p c:Int}{e:Va}{st:an}{d:List Fr}(h:c+b<=1152921504606846976)(l:an):RO b (mapM a b φ) (bz ⟨p,c,e,st,d⟩ l) (bz ⟨p+a,c+b,e,st,φ d⟩ l):=by
 unfold bz
 repeat' (first|apply aaq|exact Tp _|exact Y1|exact aap h)
def abr(hφ:∀f,φ (f::m.fr)=f::φ m.fr)(hb:0<=b)(q:0<=m.aO)(c:m.aO+b<=1152921504606846976):RO b (mapM a b φ) (Qy en n m) (Qy en n (mapM a b φ m)):=by
 have⟨p,mi,sd,st,fr⟩:=m;have j:∀(s:an) (x:Int) (v:Va),RO b (mapM a b φ) (if (addN mi x).2=0 then bz ⟨p,(addN mi x).1,sd,s,fr⟩ [v]else .no (addN mi x).2 ⟨p,mi,sd,st,fr⟩)
  (if (addN (mi+b) x).2=0 then bz ⟨p+a,(addN (mi+b) x).1,sd,s,φ fr⟩ [v]else .no (addN (mi+b) x).2 ⟨p+a,mi+b,sd,st,φ fr⟩):=λs x v=>by
  simp only at q c;have w:kE mi:=vy
  have z:kE (mi+b):=vy
  by_cases g:kE x
  .have k:∀y,kE y->addN y x=kF (y+x):=λy u=>if_pos ⟨u,g⟩;have i:=g;simp only[kE,ki]at i;rw[k _ w,k _ z]
   by_cases d:kE (mi+x)
   .rw[show kF (mi+x)=(mi+x,0) from if_pos d,if_pos rfl]
    by_cases e:kE (mi+b+x)
    .rw[show kF (mi+b+x)=(mi+x+b,0) by rw[show mi+x+b=mi+b+x by omega];exact if_pos e,if_pos rfl];exact Wj (by simp only[kE,ki]at e;omega) [v]
    .rw[show kF (mi+b+x)=(0,11) from if_neg e];refine .inr (.inr ⟨?_,_,rfl⟩);simp only[kE,ki]at d e;omega
   .rw[show kF (mi+x)=(0,11) from if_neg d,show kF (mi+b+x)=(0,11) from if_neg (by simp only[kE,ki]at d|-;omega)];exact Y1
  .have o:∀y,addN y x=(0,2):=λy=>if_neg (λh=>g h.2);rw[o,o];exact Y1
 have A:∀(f:Fr) (s l:an),RO b (mapM a b φ) (bz ⟨p,mi,sd,s,f::fr⟩ l) (bz ⟨p+a,mi+b,sd,s,f::φ fr⟩ l):=λf s l=>by rw[<-hφ];exact Wj c _
 have t:∀(f:Fr) (s:an),RO b (mapM a b φ) (.go ⟨p,mi,sd,s,f::fr⟩) (.go ⟨p+a,mi+b,sd,s,f::φ fr⟩):=λf s=>by rw[<-hφ];exact aap c
 have r:mapM a b φ ⟨p,mi,sd,st,fr⟩=⟨p+a,mi+b,sd,st,φ fr⟩:=rfl;rw[r];clear q hφ;simp only at c;unfold Qy
 repeat' (with_reducible first|apply aaq|exact Tp _|exact Wj c _|exact aap c|exact Y1|exact A _ _ _|exact t _ _|exact j _ _ _|split|(first|unfold p9|unfold l8|unfold il|unfold gJ|unfold mq|unfold gL|unfold xm|unfold jQ|unfold iB|unfold iw|unfold jP|unfold oV|unfold Gu);try dsimp only)
end
section
variable {en:En}{S:ao}
def ext (R:aE):List Fr->List Fr
 | []=>[⟨R,0,[],[]⟩]
 | [f]=>[⟨f.rest++R,f.op,f.row,f.aside⟩]
 | f::g::l=>f::ext R (g::l)
def ZV{aC:Int}{m b:Ma}(h:uB en aC m =.go b):b.said=m.said:=by
 have a:∀{x y:Ma},uH aC x .go =.go y->y.said=x.said:=λ{x y} h=>by
  unfold uH at h;split at h
  .cases h
  .cases h;rfl
 unfold uB Bz Iq at h
 repeat' split at h
 all_goals first
  | (cases h;done)
  | (rw[a h];done)
  | (cases h;rfl)
  | skip
 unfold uH at h;split at h
 .cases h
 .exact (aa6 h).2.1
def ZQ{aC:Int} : ∀(N:Nat) {m m':Ma},fq en aC N m =.go m'->m'.fr=[]/\m'.said=m.said
 | 0,m,m',h=>by cases h
 | N+1,m,m',h=>by
  cases a:m.fr with
  | nil=>simp only[fq,a,Out.go.injEq]at h;subst h;exact⟨a,rfl⟩
  | cons f i =>
   simp only[fq,a]at h
   cases e:uB en aC m with
   | stuck=>rw[e]at h;cases h
   | no c g=>rw[e]at h;cases h
   | go g =>
    rw[e]at h;have⟨b,d⟩:=ZQ N h;exact⟨b,d.trans (ZV e)⟩
end
section
variable {en:En}{n k:Tr}{s x y:ao}{l:an}{f:Bool}{g:Int}
def run_eq(hc:codeF n s =.ok f x)(c:vW en s l):Fy en n s l g=rsO (Xf en g (jO l n.args0)):=by have⟨a,b⟩:=fitsK_iff.1 c;unfold Fy;rw[if_pos ⟨a,zb.2 ⟨⟨f,x,hc⟩,b⟩⟩]
end
def ny (l:List Fr):Bool:=l.any λf=>decide (f.op=67)
def deep (U:an):List Fr->List Fr
 | []=>[]
 | f::l=>if ny l then f::deep U l else if f.op=67 then ⟨f.rest,f.op,f.row,U.reverse++f.aside⟩::l else f::l
def qO (U:an) (m:Ma):Ma:=if ny m.fr then ⟨m.paid,m.aO,m.said,m.st,deep U m.fr⟩else ⟨m.paid,m.aO,m.said,m.st++U,m.fr⟩
def SO (U:an):Out->Out->Prop
 | .stuck,_=>True
 | .no e m,o=>∃m',o =.no e m'/\m'.paid=m.paid/\m'.said=m.said
 | .go m,o=>o =.go (qO U m)
section
variable {en:En}{n:Tr}{U:an}{aC p mi:Int}{sd:Va}{st st':an}{fr fr':List Fr}{x x' y y':Out}
def eF(o:Out):SO U .stuck o:=trivial
def kX{c:Prop}[Decidable c](h:SO U x x')(k:SO U y y'):SO U (if c then x else y) (if c then x' else y'):=by split<;>assumption
def Uq{e:Int}{m m':Ma}(a:m'.paid=m.paid:=by rfl)(b:m'.said=m.said:=by rfl):SO U (.no e m) (.no e m'):=⟨m',rfl,a,b⟩
def CZ(h:ny fr=false)(e:st'=st++U:=by simp):SO U (.go ⟨p,mi,sd,st,fr⟩) (.go ⟨p,mi,sd,st',fr⟩):=by subst e;simp[SO,qO,h]
def PO(h:ny fr=false){f:Fr}(a:f.op≠67)(e:st'=st++U:=by simp):SO U (.go ⟨p,mi,sd,st,f::fr⟩) (.go ⟨p,mi,sd,st',f::fr⟩) :=
 CZ (by simp only[ny,List.any_cons,Bool.or_eq_false_iff,qg3]at h|-;exact⟨a,h⟩) e
def L6(h:ny fr=false)(l:an)(e:st'=st++U:=by simp):SO U (bz ⟨p,mi,sd,st,fr⟩ l) (bz ⟨p,mi,sd,st',fr⟩ l):=by unfold bz;refine kX (eF _) (kX Uq (CZ h ?_));rw[e,yy]
def aaR(h:ny fr=false){f:Fr}(a:f.op≠67)(l:an)(e:st'=st++U:=by simp):SO U (bz ⟨p,mi,sd,st,f::fr⟩ l) (bz ⟨p,mi,sd,st',f::fr⟩ l) :=
 L6 (by simp only[ny,List.any_cons,Bool.or_eq_false_iff,qg3]at h|-;exact⟨a,h⟩) l e
def aaQ(h:ny fr=false){c:aE}{s:an}{a b:an}(e:b=s++U:=by simp):SO U (.go ⟨p,mi,sd,a,⟨c,67,[],s.reverse⟩::fr⟩) (.go ⟨p,mi,sd,a,⟨c,67,[],b.reverse⟩::fr⟩):=by
 subst e;have d:ny (⟨c,67,[],s.reverse⟩::fr):=by simp[ny]
 simp[SO,qO,d,deep,h]
def Fj(h:ny fr)(e:fr'=deep U fr:=by rfl):SO U (.go ⟨p,mi,sd,st,fr⟩) (.go ⟨p,mi,sd,st,fr'⟩):=by subst e;simp[SO,qO,h]
def zl(h:ny fr)(f:Fr):ny (f::fr)/\deep U (f::fr)=f::deep U fr:=by refine⟨?_,by simp only[deep,h,if_true]⟩;simp only[ny,List.any_cons]at h|-;rw[h,Bool.or_true]
def Jg(h:ny fr){f:Fr} : SO U (.go ⟨p,mi,sd,st,f::fr⟩) (.go ⟨p,mi,sd,st,f::deep U fr⟩):=Fj (zl (U:=U) h f).1 (zl h f).2.symm
def DF{k a:Ma->Out}(h:SO U (k ⟨p+1,mi,sd,st,fr⟩) (a ⟨p+1,mi,sd,st',fr'⟩)):SO U (uH aC ⟨p,mi,sd,st,fr⟩ k) (uH aC ⟨p,mi,sd,st',fr'⟩ a):=by unfold uH;exact kX Uq h
def aaf(h:ny fr=false):SO U (p9 n ⟨p,mi,sd,st,fr⟩) (p9 n ⟨p,mi,sd,st++U,fr⟩):=by
 unfold p9;dsimp only;refine kX ?_ (kX (kX ?_ (eF _)) (kX ?_ (kX (kX ?_ (eF _)) ?_)))
 .cases st with
  | nil=>exact eF _
  | cons a s=>exact CZ h
 .cases e:st[(dK n 0).n0.toNat - 1]? with
  | none=>exact eF _
  | some v =>
   rw[ju (qv.1 e).1,e];exact L6 h _
 .rcases st with _|⟨a,_|⟨b,s⟩⟩
  .exact eF _
  .exact eF _
  .exact L6 h _
 .cases e:st[(dK n 0).n0.toNat]? with
  | none=>exact eF _
  | some v =>
   have d:=(qv.1 e).1;rw[ju d,e];exact CZ h (by rw[List.eraseIdx_append_of_lt_length d];rfl)
 .cases st with
  | nil=>exact eF _
  | cons v s =>
   dsimp only[List.cons_append]
   by_cases c:0<=(dK n 0).n0/\(dK n 0).n0<=s.length
   .rw[if_pos c,if_pos (by rw[qT];omega)];exact CZ h (by rw[ja6 od,List.drop_append_of_le_length od];simp)
   .rw[if_neg c];exact eF _
def UT(h:ny fr=false){q:Int} : SO U (iB en q ⟨p,mi,sd,st,fr⟩) (iB en q ⟨p,mi,sd,st++U,fr⟩):=by
 unfold iB;rcases st with _|⟨a,_|⟨b,s⟩⟩
 .exact eF _
 all_goals
  simp only[qd0,qb4];generalize a.args=r;rcases r with _|⟨x,r⟩
  all_goals
   dsimp only
   repeat' (with_reducible first|apply kX|exact eF _|exact L6 h _|exact Uq|split)
def abg(h:ny fr=false):SO U (Qy en n ⟨p,mi,sd,st,fr⟩) (Qy en n ⟨p,mi,sd,st++U,fr⟩):=by
 unfold Qy;refine kX (aaf h) ?_;rcases st with _|⟨a,_|⟨b,_|⟨c,s⟩⟩⟩
 all_goals
  simp only[qd0,qb4]
  repeat' (with_reducible first|apply kX|exact eF _|exact L6 h _|exact CZ h|exact Uq|exact aaR h ot _|exact PO h ot|exact aaQ h|split|(first|unfold l8|unfold il|unfold gJ|unfold mq|unfold gL|unfold xm|unfold jQ|unfold iw|unfold jP|unfold oV|unfold Gu);try dsimp only)
 all_goals exact UT h
def Yy(h:ny fr)(k:0<=mi)(l:mi<=1152921504606846976):SO U (Qy en n ⟨p,mi,sd,st,fr⟩) (Qy en n ⟨p,mi,sd,st,deep U fr⟩):=by
 have c:=abr (en:=en) (n:=n) (a:=0) (b:=0) (φ:=deep U) (m:=⟨p,mi,sd,st,fr⟩) (λf=>(zl h f).2) (Int.le_refl _) k (by simpa using l);have e:mapM 0 0 (deep U) ⟨p,mi,sd,st,fr⟩=⟨p,mi,sd,st,deep U fr⟩:=by simp[mapM]
 rw[e]at c;rcases c with c|⟨c,_⟩|⟨c,_⟩
 .rw[c];exact eF _
 .cases i:Qy en n ⟨p,mi,sd,st,fr⟩with
  | stuck=>exact eF _
  | no e m=>rw[c,i];exact Uq (by simp[mapM]) rfl
  | go m =>
   rw[c,i];have d:=(aa6 i).2.2;have j:ny m.fr:=by
    rcases d with d|⟨g,d⟩
    .rw[d];exact h
    .rw[d];exact (zl (U:=U) h g).1
   simp[SO,abx,qO,j,mapM]
 .exact absurd c od
def aaH{m:Ma}(h:0<=m.aO)(i:m.aO<=1152921504606846976):SO U (uB en aC m) (uB en aC (qO U m)):=by
 have⟨p,mi,sd,st,fr⟩:=m;simp only at h i
 cases fr with
 | nil=>exact eF _
 | cons f b =>
  have⟨rest,op,row,az⟩:=f;have c:∀r,ny (⟨r,op,row,az⟩::b)=(decide (op=67)||ny b):=λr=>rfl
  cases a:ny b with
  | true =>
   have d:∀r,ny (⟨r,op,row,az⟩::b):=λr=>by rw[c,a,Bool.or_true]
   rw[show qO U ⟨p,mi,sd,st,⟨rest,op,row,az⟩::b⟩=⟨p,mi,sd,st,⟨rest,op,row,az⟩::deep U b⟩ by simp[qO,d,deep,a]];unfold uB;dsimp only
   cases rest with
   | nil =>
    dsimp only;unfold Bz;dsimp only;refine kX ?_ (kX ?_ (kX (Fj a) (kX (Fj a) (Fj a))))
    .cases az with
     | nil=>exact Fj a
     | cons x l=>exact DF (Jg a)
    .cases st with
     | nil=>exact eF _
     | cons v s=>exact kX (DF (Jg a)) (Fj a)
   | cons t l =>
    dsimp only;unfold Iq;have j:=d l;have g:⟨l,op,row,az⟩::deep U b=deep U (⟨l,op,row,az⟩::b):=(zl a _).2.symm;rw[g];exact kX (Jg j) (DF (Yy j h i))
  | false =>
   by_cases e:op=67
   .subst e;have d:∀r,ny (⟨r,67,row,az⟩::b):=λr=>by rw[c];simp
    have g:∀r,deep U (⟨r,67,row,az⟩::b)=⟨r,67,row,U.reverse++az⟩::b:=λr=>by simp[deep,a]
    rw[show qO U ⟨p,mi,sd,st,⟨rest,67,row,az⟩::b⟩=⟨p,mi,sd,st,⟨rest,67,row,U.reverse++az⟩::b⟩ by simp[qO,d,g]];unfold uB;dsimp only
    cases rest with
    | nil =>
     dsimp only;unfold Bz;simp only[Int.reduceEq,↓reduceIte];exact CZ a ot
    | cons t l =>
     dsimp only;unfold Iq;rw[<-g l];exact kX (Jg (d l)) (DF (Yy (d l) h i))
   .have d:∀r,ny (⟨r,op,row,az⟩::b)=false:=λr=>by rw[c,a];simpa using e
    rw[show qO U ⟨p,mi,sd,st,⟨rest,op,row,az⟩::b⟩=⟨p,mi,sd,st++U,⟨rest,op,row,az⟩::b⟩ by simp[qO,d]];unfold uB;dsimp only
    cases rest with
    | nil =>
     dsimp only;unfold Bz;dsimp only;refine kX ?_ (kX ?_ (kX (CZ a ot) ?_))
     .cases az with
      | nil=>exact CZ a
      | cons x l=>exact DF (PO a ot)
     .cases st with
      | nil=>exact eF _
      | cons v s=>exact kX (DF (PO a ot)) (CZ a)
     .rw[if_neg e,if_neg e];exact CZ a
    | cons t l =>
     dsimp only;unfold Iq;exact kX (PO (d l) ot) (DF (abg (d l)))
end
section
variable {en:En}{S:ao}{U:an}
def YK{aC:Int}(b:yH en)(l:S.length<=342):∀(N:Nat) (m:Ma),WT aC S m->fq en aC N m ≠ .stuck->SO U (fq en aC N m) (fq en aC N (qO U m))
 | 0,m,_,h=>absurd rfl h
 | N+1,m,j,h=>by
  cases a:m.fr with
  | nil =>
   have e:(qO U m).fr=[]:=by simp[qO,a,ny]
   simp only[fq,a,e];rfl
  | cons f o =>
   have⟨g,t,e⟩:∃g t,(qO U m).fr=g::t:=by
    unfold qO;split
    .rw[a];unfold deep;repeat' split
     all_goals exact⟨_,_,rfl⟩
    .exact⟨f,o,a⟩
   have d:=aaH (U:=U) (en:=en) (aC:=aC) j.aO.1 j.aO.2;have n:=Fa b j l (by rw[a];simp);simp only[fq,a,e]at h|-
   cases i:uB en aC m with
   | stuck=>rw[i]at h;exact absurd rfl h
   | no c k =>
    rw[i]at d;have⟨s,p,q,r⟩:=d;rw[p];exact⟨s,rfl,q,r⟩
   | go k =>
    rw[i]at d h n;rw[show uB en aC (qO U m) =.go (qO U k) from d];exact YK b l N k n.1 h
end
section
variable {en:En}{n:Tr}{s under x y:ao}{l low:an}{f f2:Bool}{g:Int}
def Z4(t:Sm l)(hc:codeF n s =.ok f x)(r:vW en s l)(A:codeF n (s++under) =.ok f2 y)(j:vW en (s++under) (l++low)) :
 (Fy en n (s++under) (l++low) g).code=(Fy en n s l g).code/\(Fy en n (s++under) (l++low) g).aC=(Fy en n s l g).aC/\(Fy en n (s++under) (l++low) g).aO=(Fy en n s l g).aO /\
  ((Fy en n s l g).code=0->(Fy en n (s++under) (l++low) g).stack=(Fy en n s l g).stack++low)/\(Fy en n s l g).code≠14:=by
 have⟨N,o,e,v,d,_⟩:=Rz (g:=g) hc r t;have⟨b,hF⟩:=fitsK_iff.1 r;have i:=Md b;have z:=(uV hc).1;have q:WT g x (jO l n.args0):=Gg hc (λ_=>rfl) hF t;have p:fq en g N (jO l n.args0) ≠ .stuck:=by rw[e];exact uW d
 have a:=YK (U:=low) i od N _ q p;have w:qO low (jO l n.args0)=jO (l++low) n.args0:=by simp[qO,jO,ny]
 rw[w,e]at a;rw[run_eq (en:=en) (g:=g) A j,v]
 cases o with
 | stuck=>exact absurd rfl (uW d)
 | no c m =>
  have⟨D,u,B,C⟩:=a;rw[xA (N:=N) (by rw[u];simp),u];have:=d.2;exact⟨rfl,B,rfl,λh=>by simp only[rsO]at h;omega,by simp only[rsO];omega⟩
 | go m =>
  have a:fq en g N (jO (l++low) n.args0) =.go (qO low m):=a;rw[xA (N:=N) (by rw[a];simp),a];have k:=(ZQ N e).1;have : qO low m=⟨m.paid,m.aO,m.said,m.st++low,[]⟩:=by simp[qO,k,ny]
  rw[this];exact⟨rfl,rfl,rfl,λ_=>rfl,by simp[rsO]⟩
end
def svS (l:an) (j:Nat):St:=[((0,0),.of (qi l)),((0,1),.of (qi l)),((0,12),lW (vasD l).length),((0,13),.of (jA j))]
def aaT{l:List Va}(r:okVs l)(w:l.length<=100000)(hz:Sm l):∀(k j:Nat),j+k=l.length->vO prog f15.ntmps ⟨gF f15,svS l j,2,[]⟩:=λk=>by
 induction k with
 | zero =>
  intro j q;exact xQ (e:=1) [(14,bA false)] [] (ob:=[mD (aQ (decide (Int.ofNat j<((vasD l).length:Int)))) (bA false)]) (al (wH ON) al0)
 | succ k v =>
  intro j q;have c:j<l.length:=od
  have t:=is_lt (a:=Int.ofNat j) (b:=((vasD l).length:Int)) ON;have p:=PT (qn c);have u:mD (lW (IntKind.i64.wrap (Int.ofNat j+1))) (jA (j+1)):=yY (zF ot oB oB);have o:=okVs_at.1 r _ (kA c);have hF:=Te o o (by have:=hz _ (kA c);omega);rw[Wm]at hF;have s:=v (j+1) od;generalize l[j]=x at *;obtain⟨g,h,f,n,i,m,d⟩:=x;exact LG [(14,bA true),(18,.one (.e (vaD (.mk g h f n i m d)) 0)),(22,.one (.e (vaD (.mk g h f n i m d)) 0)),(26,jA (j+1))] [⟨_,hF⟩] s (ob:=[mD (aQ (decide (Int.ofNat j<((vasD l).length:Int)))) (bA true),XT l j (.mk g h f n i m d),XT l j (.mk g h f n i m d),mD (lW (IntKind.i64.wrap (Int.ofNat j+1))) (jA (j+1))]) (al t (al p (al p (al u al0))))
def Z9{l:an}(d:okVs l)(b:l.length<=100000)(e:Sm l):Hd ⟨15,[qi l,qi l],aQ true⟩:=by have c:=aaT d b e l.length 0 od;exact Ce func15 [(10,fA)] [⟨gF f15,svS l 0,2,[]⟩] (by intro x a;rw[jx]at a;subst a;exact c) [] (wI (S:=svS l 0) (q:=gF f15=gF f15) rfl (ps:=[jJ (!decide (((vasD l).length:Int)=((vasD l).length:Int))) false]) (al (eT ot) al0))
section
variable {en:En}{n:Tr}{s:ao}{l:an}{g aC more:Int}
def aas(q:Sm l):okV (Fy en n s l g).said/\(Fy en n s l g).said.size<=6000000/\okVs (Fy en n s l g).stack/\(Fy en n s l g).stack.length<=342/\Sm (Fy en n s l g).stack:=by
 have b:okV zeroVa/\zeroVa.size<=6000000:=by simp[zeroVa,okV,okVs,okTs,okNs,bD,Va.size,vsizes,tysizes,sizes,ByteArray.size,maxLen]
 have f:okVs []/\([]:an).length<=342/\Sm []:=⟨trivial,ot,λx h=>by simp at h⟩;rcases abt en n s q with h|⟨x,h⟩
 .rw[h];exact⟨b.1,b.2,f⟩
 .have⟨N,e,a⟩:=h g;rw[e]
  cases d:fq en g N (jO l n.args0)with
  | stuck=>rw[d]at a;exact a.elim
  | go m =>
   rw[d]at a;have⟨i,_,_,_,j,k⟩:=a;exact⟨b.1,b.2,T9 i,k,j⟩
  | no c m =>
   rw[d]at a;refine⟨?_,?_,f⟩<;>simp only[rsO]<;>split
   .rename_i p;rcases a.2 with⟨_,_,_,T,o⟩|h|h|h
    .exact fit_ok _ (qS _) o
    all_goals omega
   .exact b.1
   .rename_i p;rcases a.2 with⟨_,_,h,_⟩|h|h|h
    .exact h
    all_goals omega
   .exact b.2
end
