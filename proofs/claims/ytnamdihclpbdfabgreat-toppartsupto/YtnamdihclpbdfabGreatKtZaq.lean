import Derived.Test.YtnamdihclpbdfabGreatKtZap
namespace Go.Proofs.YtnamdihclpbdfabGreat
set_option linter.all false
open Go.Proofs.Tryz
open Go.ChangeShapes Go.WideShapes Go.ChangeAt Go.RowKit
set_option maxRecDepth 100000
set_option maxHeartbeats 4000000
section
variable {B:Nat}{O O1:br}{w w1:cg}{mb:Nat}{en:En}{aC:Int}{m m1:Ma}
end
section
variable {B:Nat}{O O':br}{w w':cg}{mb:Nat}{en:En}{aC:Int}{m:Ma}{t:Tr}{nk nn:Int}{ns:bp}{nap:bj}{nlp ncp:Nat}
def tZ(w:cg)(c c1 c2 a b d e:cm):(Instr.field 29 (.agg #[c,c1,c2,a,b,d,e]) 4).run prog w =.ok b w/\(Instr.field 29 (.agg #[c,c1,c2,a,b,d,e]) 3).run prog w =.ok a w/\(Instr.field 29 (.agg #[c,c1,c2,a,b,d,e]) 1).run prog w =.ok c1 w:=by simp[Instr.field,qa7 underlying29,asAgg,go_sem]
attribute [local go_sem] tZ
def dB.node{v:cm}(f:dB O w O' w')(h:bI (λb=>¬O b) w t v):bI (λb=>¬O' b) w' t v :=
 ((h.ae (ok':=λb=>¬O b/\¬O' b) (λb a e=>⟨e,λg=>by rcases f.new b g with d|d;exact e d;omega⟩)).same (λb o a c=>f.same b o a.1 c)).ae (λb _ a=>a.2)
end
attribute [local go_sem] tZ
section
variable {B:Nat}{O O':br}{w w':cg}{mb:Nat}{en:En}{aC:Int}{m:Ma}
def dm.Ze(h:dm B O w mb en aC m)(q:Int)(r:bD q):dm B O (w.setCell ⟨mb,6,none⟩ (.i q)) mb en aC { m with aO:=q }/\dB O w O (w.setCell ⟨mb,6,none⟩ (.i q)):=by
 have⟨k,n,a,s,aa,al,ac,ta,tl,tc,na,nl,nc,sv,fv,us,fs,h⟩:=h;have o:cq w (w.setCell ⟨mb,6,none⟩ (.i q)) (some mb):=eF (bf _ _) _ _ _;have f:dB O w O (w.setCell ⟨mb,6,none⟩ (.i q)):=dB.ofRow o (λg e=>by cases e;exact h.mine.1);have j:=h.apart;have d:∀g,O g->g≠mb->(w.setCell ⟨mb,6,none⟩ (.i q)).heap[g]?=w.heap[g]?:=λg c l=>o.block g (h.high g c) (by simpa using l);refine⟨⟨_,_,_,_,_,_,_,_,_,_,_,_,_,_,_,_,_,(nG h.blk sv).2.2.2 q,f.lies h.said,h.jL.kept f λg e=>⟨h.jL.mine g e,d g (h.jL.mine g e) (j.1 g e).1⟩,iT h.own λg e=>d g (h.mine.2 g e) (λp=>j.2.2 (by rw[<-p];exact e)),h.sZ.kept f λg e=>⟨(h.sZ.mine g e).1,d g (h.sZ.mine g e).1 (j.2.1 g e).1⟩,h.nodup,h.mine,h.low,λb c=>?_,⟨h.num.1,r,h.num.2.2⟩⟩,f⟩
 by_cases e:b=mb
 .subst e;exact⟨_,_,(nG h.blk sv).2.2.2 q⟩
 .rw[d b c e];exact h.cells b c
def dm.seen(h:dm B O w mb en aC m):w.cell? ⟨mb,0,none⟩=some (.i en.self)/\w.cell? ⟨mb,6,none⟩=some (.i m.aO)/\(∀o,w.frozen? ⟨mb,o,none⟩=false)/\mb<w.heap.size/\O mb:=by have⟨k,n,a,s,aa,al,ac,ta,tl,tc,na,nl,nc,sv,fv,us,fs,h⟩:=h;have⟨b,_,_,_,_,_,c,_,_,d⟩:=iM h.blk;exact⟨b,c,d,h.high _ h.mine.1,h.mine.1⟩
def jK.seen{o:Out}{e:Ending}(h:jK B O w mb en aC o e w'):w'.cell? ⟨mb,0,none⟩=some (.i en.self):=by
 have⟨O',_,h⟩:=h
 cases o with
 | stuck=>exact h.elim
 | no a m=>have⟨_,_,b,_,_,h⟩:=h;exact h.seen.1
 | go m=>exact h.2.seen.1
def SB (p mb:Nat) (x:Obj) (v:cm) (w:cg):Prop:=w.heap[p]?=some x/\w.cell? ⟨mb,0,none⟩=some v
def SB.grow{p:Nat}{x:Obj}{v:cm}(h:SB p mb x v w)(a:cq w w' none):SB p mb x v w':=⟨mH h.1 a,kNq a h.2⟩
def NM{x:Va}{N:Int}{l:bj}{al ac:Nat}{ta:bj}{tl tc:Nat}{na:bj}{q nc:Nat}(hN:bD N)(hs:bD en.self)(h:dm B O w mb en aC m)(Z:aA (λb=>¬O b) w x (bg x.k x.n x.a x.s l al ac ta tl tc na q nc))(c:(if N=0 then bz m [noneV]else if (addN m.aO N).2=0 then bz { m with aO:=(addN m.aO N).1 } [aV (aM en.self N x)]else .no (addN m.aO N).2 m) ≠ .stuck)(f:m.st.length<=50000000) :
 Calls prog 231 #[.po mb,.agg #[.i x.k,.i x.n,.i x.a,.string x.s,.slice l al ac,.slice ta tl tc,.slice na q nc],.i N] w (jK B O w mb en aC (if N=0 then bz m [noneV]else if (addN m.aO N).2=0 then bz { m with aO:=(addN m.aO N).1 } [aV (aM en.self N x)]else .no (addN m.aO N).2 m)):=by
 have P:=jh f;have HM:=jh h;have d:=aK (w:=w) (.cells #[.i x.k,.i x.n,.i x.a,.string x.s,.slice l al ac,.slice ta tl tc,.slice na q nc] 29);obtain⟨G,I,HX⟩:=JT (xF w (.cells #[.i x.k,.i x.n,.i x.a,.string x.s,.slice l al ac,.slice ta tl tc,.slice na q nc] 29)) d Z
 by_cases h0:N=0
 .subst h0;simp only[↓reduceIte]at c|-;have u:=jh c;clear h c f Z d;generalize V:jK B O w mb en aC (bz m [noneV])=Q;have HQ:=jh V;clear V;go_enter func231,ntmps231;go_wp2_with (first
   | (go_at_call 212;(with_reducible refine (QV _).mono ?_);rintro e w5 ⟨rfl,j⟩;have S:=jh (Fg (x:=noneV) HM.out (aJ I.out j) (qJ OF OF OF (yb _)) u.out P.out);unfold bg at S;clear j;unfold bg)
   | (go_at_call 209;(with_reducible refine S.out.mono ?_);rintro e w9 F;obtain⟨er,rfl,o⟩:=F.ret;have HE:=jh o;clear F o))
  rw[<-HQ.out];exact HE
 .have n1:(N==0)=false:=ja0.2 h0;simp only[h0,↓reduceIte]at c|-;have r:=jh (Lc m.aO N);have v:bD (addN m.aO N).1:=H9 (p:=69);obtain⟨M,E,y⟩:∃M E,addN m.aO N=(M,E):=⟨_,_,rfl⟩;rw[y]at r c v|-;simp only at c v|-;have e1:=(h.grow d).seen
  by_cases U:E=0
  .subst U;simp only[↓reduceIte]at c|-;have u:=jh c;have D:=(h.grow d).Ze M v;have e2:=D.1.seen;have R:=jh D;have Y:w.heap.size≠mb:=by have:=h.seen.2.2.2.1;omega
   obtain⟨ab,aj,ad⟩:=JT ((World.grownBy.block (eF (bf _ _) 6 none (.i M)) w.heap.size (kj.1 G).1 (by simpa using Y)).trans G) (h.qb (jn _)) e2;clear h c f Z d D y e2;generalize V:jK B O w mb en aC (bz { m with aO:=M } [aV (aM en.self N x)])=Q;have HQ:=jh V;clear V;go_enter func231,ntmps231;go_wp2_with (first
    | (go_at_call 113;(with_reducible refine (r.out _).mono ?_);rintro e w' ⟨rfl,rfl⟩))
   have C:=kY (bf ((w.alloc (.cells #[.i x.k,.i x.n,.i x.a,.string x.s,.slice l al ac,.slice ta tl tc,.slice na q nc] 29)).setCell ⟨mb,6,none⟩ (.i M)) none);generalize ((w.alloc (.cells #[.i x.k,.i x.n,.i x.a,.string x.s,.slice l al ac,.slice ta tl tc,.slice na q nc] 29)).setCell ⟨mb,6,none⟩ (.i M))=W2 at *;have W:SB w.heap.size mb (.cells #[.i x.k,.i x.n,.i x.a,.string x.s,.slice l al ac,.slice ta tl tc,.slice na q nc] 29) (.i en.self) W2.drew:=⟨ab.out,ad.out.1⟩;have K:=λ(w':cg) (h:SB w.heap.size mb (.cells #[.i x.k,.i x.n,.i x.a,.string x.s,.slice l al ac,.slice ta tl tc,.slice na q nc] 29) (.i en.self) w')=>And.intro (cO h.1) h.2;have t:=jh (R.out.1.grow C);have H:=jh (((dB.grow I.out).trans R.out.2).trans (dB.grow C));clear C;go_region_held3 (SB w.heap.size mb (.cells #[.i x.k,.i x.n,.i x.a,.string x.s,.slice l al ac,.slice ta tl tc,.slice na q nc] 29) (.i en.self)) (first|with_reducible assumption|exact W|exact z.grow (aK _)) (first
    | (go_at_call 247;(with_reducible refine (KG _ _ _).mono ?_);rintro e w5 ⟨g,X,rfl,j,T⟩;have ak:=W.grow j;have J:=jh j;have ah:=jh (GY (ok:=λb=>¬O b) (K:=15) (N:=N) (A:=en.self) T (t.out.qb X) ((dB.grow j).lies (H.out.lies HX.out)) OF hN hs);clear X j T;unfold bg)
    | (go_at_call 214;(with_reducible refine (RN _).mono ?_);rintro e w6 ⟨g,X,rfl,j,T⟩;have z:=ak.grow j;have L:=jh (aJ J.out j);have S:=jh (sG (x:=aV (aM en.self N x)) (t.out.grow L.out) (GY T (t.out.qb (xo J.out.size X)) ((dB.grow j).lies ah.out) OF OF OF) u.out P.out);unfold bg at S;clear X j T;unfold bg)
    | (go_at_call 209;(with_reducible refine S.out.mono ?_);rintro e w9 F;have an:SB w.heap.size mb (.cells #[.i x.k,.i x.n,.i x.a,.string x.s,.slice l al ac,.slice ta tl tc,.slice na q nc] 29) (.i en.self) w9:=⟨F.kept (kj.1 z.1).1 aj.out z.1,F.seen⟩;obtain⟨er,rfl,o⟩:=(F.trans (H.out.trans (dB.grow L.out))).ret;have HE:=jh o;clear F o))
   go_wp2_with fail;rw[<-HQ.out];exact HE
  .have e2:(E==0)=false:=ja0.2 U;have e3:(E != 0):=by rw[bne_iff_ne];exact U
   simp only[U,↓reduceIte]at c|-;have ae:Hid (jK B O w mb en aC (.no E m) (.returned (.i E)) (w.alloc (.cells #[.i x.k,.i x.n,.i x.a,.string x.s,.slice l al ac,.slice ta tl tc,.slice na q nc] 29))):=⟨O,dB.grow d,U,rfl,m,rfl,rfl,h.grow d⟩;clear h c f Z d y;go_enter func231,ntmps231;go_wp2_with (first
    | (go_at_call 113;(with_reducible refine (r.out _).mono ?_);rintro e w' ⟨rfl,rfl⟩))
   go_ret;exact ae
def KO{x y:Va}{st:ao}(V:bD en.self)(h:dm B O w mb en aC m)(f:m.st=x::y::st)(b:iB en 84 m ≠ .stuck)(c:m.st.length<=50000000):Calls prog 200 #[.po mb,.i 84] w (jK B O w mb en aC (iB en 84 m)):=by
 have⟨o,S,F⟩:∃o,((if y.n=0 then bz { m with st:=st } [noneV]else if (addN m.aO y.n).2=0 then bz { m with st:=st,aO:=(addN m.aO y.n).1 } [aV (aM en.self y.n x)]else .no (addN m.aO y.n).2 { m with st:=st }))=o/\(o ≠ .stuck)/\∀e w',jK B O w mb en aC o e w'->jK B O w mb en aC (iB en 84 m) e w':=by
  refine⟨_,rfl,?_,?_⟩
  .simp only[iB,f,↓reduceIte]at b;split
   .rename_i h0;rw[if_pos h0]at b;exact b
   .rename_i h0;rw[if_neg h0]at b;split
    .rename_i t;rw[if_pos t]at b;exact b
    .exact λe=>by cases e
  .intro e w' d;simp only[iB,f,↓reduceIte];split
   .rename_i h0;rw[if_pos h0]at d;exact d
   .rename_i h0;rw[if_neg h0]at d;split
    .rename_i t;rw[if_pos t]at d;exact d
    .rename_i t;rw[if_neg t]at d;exact d
 refine Calls.mono ?_ F.2;replace b:=F.1;clear F;subst S;have H:=jh (yB h f);have D:Hid (st.length<=50000000):=by rw[f]at c;exact (by simp only[jj]at c;omega:st.length<=50000000)
 have E:=jh b;clear h f b c;generalize I:jK B O w mb en aC (if y.n=0 then bz { m with st:=st } [noneV]else if (addN m.aO y.n).2=0 then bz { m with st:=st,aO:=(addN m.aO y.n).1 } [aV (aM en.self y.n x)]else .no (addN m.aO y.n).2 { m with st:=st })=Q;have L:=jh I;clear I;go_enter func200,ntmps200;go_wp2_with (first
  | (go_at_call 191;(with_reducible refine H.out.mono ?_);clear H;rintro e w1 ⟨v,rfl,g,hF,q⟩;obtain⟨k,n,a,s,aa,al,ac,ta,tl,tc,na,nl,nc,rfl⟩:=g.bg;obtain⟨rfl,rfl,rfl,rfl⟩:=qK g;have HL:=jh g;have A:=jh hF;have r:=jh (λw' (U:cq w1 w' none)=>yB (q.grow U) rfl);have G:=jh (q.qb (jn _));clear g hF q;unfold bg))
 have l:(w1.alloc (.cells #[.i x.k,.i x.n,.i x.a,.string x.s,.slice aa al ac,.slice ta tl tc,.slice na nl nc] 29)).heap[w1.heap.size]?=some (.cells #[.i x.k,.i x.n,.i x.a,.string x.s,.slice aa al ac,.slice ta tl tc,.slice na nl nc] 29):=xF _ _;have u:=aK (w:=w1) (.cells #[.i x.k,.i x.n,.i x.a,.string x.s,.slice aa al ac,.slice ta tl tc,.slice na nl nc] 29);generalize w1.alloc (.cells #[.i x.k,.i x.n,.i x.a,.string x.s,.slice aa al ac,.slice ta tl tc,.slice na nl nc] 29)=W1 at *;have j:=jh u;clear u;have K:=λ(w':cg) (h:w'.heap[w1.heap.size]?=some (.cells #[.i x.k,.i x.n,.i x.a,.string x.s,.slice aa al ac,.slice ta tl tc,.slice na nl nc] 29))=>cO h;go_region_held3 (λw'=>w'.heap[w1.heap.size]?=some (.cells #[.i x.k,.i x.n,.i x.a,.string x.s,.slice aa al ac,.slice ta tl tc,.slice na nl nc] 29)) (first|with_reducible assumption|exact l|exact aB p|exact aB hS5) (first
  | (go_at_call 191;(with_reducible refine (r.out _ (kY j.out)).mono ?_);clear r;rintro e w2 ⟨v,rfl,g,hF,q⟩;obtain⟨k1,n1,a1,s1,M,R,P,Z,fE,ab,W,Y,X,rfl⟩:=g.bg;obtain⟨rfl,rfl,rfl,rfl⟩:=qK g;have p:=(hF.block _ (kj.1 l).1 G.out).trans l;replace HL:=jh (hF.lies ((dB.grow (kY j.out)).lies HL.out));have C:=jh g;replace A:=jh ((A.out.trans (dB.grow (kY j.out))).trans hF);have HM:=jh q;clear g hF q;unfold bg)
  | (go_at_call 231;(with_reducible refine (NM (N:=y.n) (QF C.out) V HM.out HL.out E.out D.out).mono ?_);rintro e w9 d;have T:=d.kept (kj.1 p).1 G.out p;obtain⟨er,rfl,z⟩:=(d.trans A.out).ret;have J:=jh z;clear d z))
 go_wp2_with fail;rw[<-L.out];exact J
end
attribute [local go_sem] tZ
section
variable {B:Nat}{O O':br}{w w':cg}{mb:Nat}{en:En}{aC:Int}{m:Ma}{t:Tr}{nk nn:Int}{ns:bp}{nap:bj}{nlp ncp:Nat}
end
attribute [local go_sem] tZ
section
variable {B:Nat}{O O':br}{w w':cg}{mb:Nat}{en:En}{aC:Int}{m:Ma}{t:Tr}{nk nn:Int}{ns:bp}{nap:bj}{nlp ncp:Nat}
def wh (w:cg) (mb:Nat) (k n a:Int) (s:bp) (aa:bj) (al ac:Nat) (ta:bj) (tl tc:Nat) (na:bj) (nl nc:Nat):cg:=((((((w.setCell ⟨mb,7,none⟩ (.i k)).setCell ⟨mb,8,none⟩ (.i n)).setCell ⟨mb,9,none⟩ (.i a)).setCell ⟨mb,10,none⟩ (.string s)).setCell ⟨mb,11,none⟩ (.slice aa al ac)).setCell ⟨mb,12,none⟩ (.slice ta tl tc)).setCell ⟨mb,13,none⟩ (.slice na nl nc)
def dm.say{x:Va}{k n a:Int}{s:bp}{c:bj}{al ac:Nat}{ta:bj}{tl tc:Nat}{na:bj}{f nc:Nat}(h:dm B O w mb en aC m)(v:aA (λb=>¬O b) w x (bg k n a s c al ac ta tl tc na f nc)):dm B O (wh w mb k n a s c al ac ta tl tc na f nc) mb en aC { m with said:=x }/\dB O w O (wh w mb k n a s c al ac ta tl tc na f nc):=by
 have⟨G,n0,F,H,r,al0,t,C,E,D,y,A,z,sv,fv,us,fs,h⟩:=h;have q:cq w (wh w mb k n a s c al ac ta tl tc na f nc) (some mb):=by unfold wh;exact eF (eF (eF (eF (eF (eF (eF (bf _ _) _ _ _) _ _ _) _ _ _) _ _ _) _ _ _) _ _ _) _ _ _
 have d:(wh w mb k n a s c al ac ta tl tc na f nc).heap[mb]?=some (.cells (yG en aC m.paid m.aO k n a s c al ac ta tl tc na f nc sv fv) 197):=by have i:=h.blk;unfold wh;unfold yG at i|-;simp[World.setCell,ja1,i]
 have l:dB O w O (wh w mb k n a s c al ac ta tl tc na f nc):=dB.ofRow q (λg e=>by cases e;exact h.mine.1);have o:=h.apart;generalize wh w mb k n a s c al ac ta tl tc na f nc=W at *;have i:∀g,O g->g≠mb->W.heap[g]?=w.heap[g]?:=λg j p=>q.block g (h.high g j) (by simpa using p);refine⟨⟨_,_,_,_,_,_,_,_,_,_,_,_,_,_,_,_,_,d,l.lies v,h.jL.kept l λg e=>⟨h.jL.mine g e,i g (h.jL.mine g e) (o.1 g e).1⟩,iT h.own λg e=>i g (h.mine.2 g e) (λu=>o.2.2 (by rw[<-u];exact e)),h.sZ.kept l λg e=>⟨(h.sZ.mine g e).1,i g (h.sZ.mine g e).1 (o.2.1 g e).1⟩,h.nodup,h.mine,h.low,λb j=>?_,h.num⟩,l⟩
 by_cases e:b=mb
 .subst e;exact⟨_,_,d⟩
 .rw[i b j e];exact h.cells b j
def dm.wh(h:dm B O w mb en aC m):∃k n a s aa al ac ta tl tc na nl nc,w.cell? ⟨mb,7,none⟩=some (.i k)/\w.cell? ⟨mb,8,none⟩=some (.i n)/\w.cell? ⟨mb,9,none⟩=some (.i a)/\w.cell? ⟨mb,10,none⟩=some (.string s)/\w.cell? ⟨mb,11,none⟩=some (.slice aa al ac)/\w.cell? ⟨mb,12,none⟩=some (.slice ta tl tc)/\w.cell? ⟨mb,13,none⟩=some (.slice na nl nc):=by have⟨k,n,a,s,aa,al,ac,ta,tl,tc,na,nl,nc,sv,fv,us,fs,h⟩:=h;have b:=h.blk;refine⟨k,n,a,s,aa,al,ac,ta,tl,tc,na,nl,nc,?_⟩;simp[World.cell?,b,yG]
def R9{x:Va}{st:ao}(h:dm B O w mb en aC m)(p:m.st=x::st) :
 Calls prog 199 #[.po mb,af nk nn 83 ns nap nlp ncp] w (jK B O w mb en aC (.no 10 { m with said:=x })):=by
 have r:=jh (h.qb (jn _));have c:=aK (w:=w) (kI nk nn 83 ns nap nlp ncp);have⟨b,f,t⟩:=JT (xF w (kI nk nn 83 ns nap nlp ncp)) c (yB (h.grow c) p);clear h p c;generalize u:jK B O w mb en aC (.no 10 { m with said:=x })=N;have z:=jh u;clear u;unfold af;go_enter func199,ntmps199;unfold kI at b f t;go_wp2_with (first
  | (go_at_call 191;(with_reducible refine t.out.mono ?_);clear t;rintro e w1 ⟨v,rfl,j,hF,d⟩;obtain⟨k,n,a,s,aa,al,ac,ta,tl,tc,na,nl,nc,rfl⟩:=j.bg;obtain⟨rfl,rfl,rfl,rfl⟩:=qK j;have y:=jh ((dB.grow f.out).trans hF);have l:=(hF.block _ (kj.1 b.out).1 r.out).trans b.out;have T:=bE (aB (o:=(.cells #[.i x.k,.i x.n,.i x.a,.string x.s,.slice aa al ac,.slice ta tl tc,.slice na nl nc] 29)) l);have HL:=jh j;have HM:=jh d;have F:=d.seen;have⟨Q,R,P,S,A,D,C,K,M,L,H,J,I,G⟩:=d.wh;have q:=d.say j;have g:=jh q;have E:=d.seen.2.2.2.1;clear q;clear j hF d l;unfold bg))
 rw[<-z.out];exact⟨O,y.trans (g.2.trans (dB.grow (aK _))),ov,rfl,{ m with st:=st,said:=x },rfl,rfl,g.1.grow (aK _)⟩
end
attribute [local go_sem] tZ
section
variable {B:Nat}{O O':br}{w w':cg}{mb:Nat}{en:En}{aC:Int}{m:Ma}{k n a:Int}{s:bp}{aa:bj}{al ac:Nat}{ta:bj}{tl tc:Nat}{na:bj}{nl nc:Nat}{sv fv:cm}{us fs:bo}
def dB.WS{row:Option Nat}(a:cq w w' row)(g:∀r,row=some r->O r){N:Nat}(d:w.heap.size<=N):dB O w (λb=>O b\/b=N) w' :=
 ⟨a.os,a.tape,a.output,a.size,λb c f=>a.block b c (λe=>f (g b e.symm)),λb c=>by rcases c with h|rfl;exact .inl h;exact .inr d⟩
def Vk{x:Va}{N:Nat}{k n a:Int}{s:bp}{c:bj}{al ac:Nat}{ta:bj}{tl tc:Nat}{na:bj}{f nc:Nat}(hb:w.heap[N]?=some (.cells #[.i k,.i n,.i a,.string s,.slice c al ac,.slice ta tl tc,.slice na f nc] 29))(l:B<=N)(m:O N)(h:aA (λb=>¬O b) w x (bg k n a s c al ac ta tl tc na f nc)):sU B O w [x] (.o N 1 1) [bg k n a s c al ac ta tl tc na f nc]:=by
 refine⟨⟨rfl,.inr ⟨N,1,_,rfl,l,hb,jn _,by unfold maxLen;decide,rfl,rfl⟩⟩,rfl,λi y u d j=>?_,λg e=>by cases e;exact m⟩
 cases i with
 | zero=>simp at d j;subst d;subst j;exact h
 | succ i=>simp at d
def bU.exec{f:Fr}{x:Va}{ra:bj}{rc:Nat}{j:cg}{VR:bt}{ba:bj}{bl bc:Nat}{k1 n1 a1:Int}{s1:bp}{A:bj}{D C:Nat}{K:bj}{fE L:Nat}{H:bj}{J I:Nat}{e:Ending}
 (h:bU B O w mb en aC m k n a s aa al ac ta tl tc na nl nc (.slice ba bl bc) fv us fs) (hf:f.op=67/\f.row=[]/\f.aside=m.st.reverse) (hr:cK (λb=>¬O b) w f.rest ra VR) (hrc:f.rest.length<=rc) (hE:IW B w mb fv (fs++[yF ra f.rest.length rc 67 none 0 0 ba bl bc]) e j) (hx:aA (λb=>¬O b) w x (bg k1 n1 a1 s1 A D C K fE L H J I)) :
 ∀w',w'=(j.alloc (.cells #[.i k1,.i n1,.i a1,.string s1,.slice A D C,.slice K fE L,.slice H J I] 29)).setCell ⟨mb,14,none⟩ (.o (j.heap.size) 1 1)->jK B O w mb en aC (.go { m with st:=[x],fr:=f::m.fr }) (.returned (.i 0)) w':=by
 rintro w' rfl;obtain⟨rfl,c,w1,U,ho,rfl⟩:=hE;have⟨G,v,t⟩:=hf;have M:=h.apart;have P:=h.jL.len;have E:bl=m.st.length:=by have⟨a',c',e⟩:=nX h.jL.own;cases e;rw[P,qb3]
 have d:cq w1 (w1.setCell ⟨mb,15,none⟩ c) (some mb):=eF (bf _ _) _ _ _;have ad:qx O fv c mb:=.inl ⟨h.mine.1,M.2.2⟩;have an:=(dB.gr U h.mine.2).trans (dB.ofRow d (λq e=>by cases e;exact ad));have ax:=(nG ((U.block (h.high _ h.mine.1) M.2.2.symm).trans h.blk) c).2.1;have Z:∀g,c.ownBlock=some g->g≠mb:=λg e V=>by
  subst V;rcases U.2 with e3|⟨g',e3,hg⟩
  .exact M.2.2 (by rw[<-e3,e])
  .rw[e]at e3;cases e3;have:=h.high _ h.mine.1;omega
 have T:∀g,O g->g≠mb->fv.ownBlock≠some g->(w1.setCell ⟨mb,15,none⟩ c).heap[g]?=w.heap[g]?:=λg Q h1 h2=>(d.block g (kh (h.high g Q) U.1.size) (by simpa using h1)).trans (U.block (h.high g Q) h2.symm);have S:kU B (w1.setCell ⟨mb,15,none⟩ c) c (fs++[yF ra f.rest.length rc 67 none 0 0 ba bl bc]):=iT ho λg e=>d.block g (qb5 ho g e).2 (by simpa using Z g e);have ah:w.heap.size<=(w1.setCell ⟨mb,15,none⟩ c).heap.size:=xo U.1.size d.size;generalize bn:w1.setCell ⟨mb,15,none⟩ c=j at *;have ab:=aK (w:=j) (.cells #[.i k1,.i n1,.i a1,.string s1,.slice A D C,.slice K fE L,.slice H J I] 29);have Y:=xF j (.cells #[.i k1,.i n1,.i a1,.string s1,.slice A D C,.slice K fE L,.slice H J I] 29);generalize j.alloc _=X at *;have y:cq X (X.setCell ⟨mb,14,none⟩ (.o (j.heap.size) 1 1)) (some mb):=eF (bf _ _) _ _ _;have F:=K6 (gAq (r:=some mb) ab) y;have aq:dB (qx O fv c) j (λb=>qx O fv c b\/b=j.heap.size) _:=dB.WS F (λr e=>by cases e;exact ad) (jn j.heap.size);have hF:=an.trans aq;have bk:=h.high _ h.mine.1;have ar:j.heap.size≠mb:=od
 have N:=(nG (mH ax ab) (.o (j.heap.size) 1 1)).1;have W:=(y.block j.heap.size (kj.1 Y).1 (by simpa using ar)).trans Y;have o:∀g,O g->g≠mb->fv.ownBlock≠some g->(X.setCell ⟨mb,14,none⟩ (.o (j.heap.size) 1 1)).heap[g]?=w.heap[g]?:=λg Q h1 h2=>(F.block g (kh (h.high g Q) ah) (by simpa using h1)).trans (T g Q h1 h2);have bm:=h.low _ h.mine.1;have aO:=h.nodup;refine⟨_,hF,rfl,_,_,_,_,_,_,_,_,_,_,_,_,_,_,_,_,_,h.push (st:=[x]) (f:=f) (u:=yF ra f.rest.length rc 67 none 0 0 ba bl bc) hF N (Vk W od (.inr rfl) (hF.lies hx)) (iT S λg e=>F.block g (qb5 S g e).2 (by simpa using Z g e)) ?_ ?_ (λg Q bb=>.inl (.inl ⟨Q,bb⟩)) (λg hg=>o g (h.sZ.mine g hg).1 (M.2.1 g hg).1 (M.2.1 g hg).2.1) (λg e=>.inl (.inr e)) (λb l=>?_)⟩
 .refine⟨ra,rc,none,0,ba,bc,VR,VR,?_,by rw[G];unfold bD;decide,⟨hrc,by rw[v];exact yb _,?_⟩,hF.Kl hr,by rw[v];exact cK.nil _ _ _ _,λ_=>⟨us,?_⟩,λe=>absurd G e⟩
  .rw[v,t,G,E,qb3];rfl
  .rw[t,qb3,<-E];rcases h.jL.own.2 with⟨e,_⟩|⟨g,aj,ak,e,_,_,ae,_⟩
   .cases e;exact yb _
   .cases e;rw[P,qb3,<-E]at ae;exact ae
  .rw[t,qb3,<-E];exact h.jL.kept hF λg e=>⟨.inl (.inl ⟨h.jL.mine g e,(M.1 g e).2⟩),o g (h.jL.mine g e) (M.1 g e).1 (M.1 g e).2⟩
 .have az:lM f (yF ra f.rest.length rc 67 none 0 0 ba bl bc)=(Value.slice ba bl bc).ownBlock.toList:=by unfold lM;rw[if_pos G];rfl
  rw[az];have R:=qd5.1 aO;refine qd5.2 ⟨Of,qd5.2 ⟨R.2.1,R.1,λp hp q z e=>R.2.2 q z p hp e.symm⟩,λp hp q z e=>?_⟩;have hp:p=j.heap.size:=by simpa[Value.ownBlock]using hp
  have bh:O q:=by
   rcases ka.1 z with z|z
   .exact (h.sZ.mine q z).1
   .exact h.jL.mine q (Option.mem_toList.1 z)
  have:=h.high q bh;omega
 .rcases l with l|rfl
  .by_cases e:b=mb
   .subst e;exact⟨_,_,N⟩
   .rcases l with l|l
    .rw[o b l.1 e l.2];exact h.cells b l.1
    .rcases S.2 with⟨V,_⟩|⟨g,aj,ak,V,_,z,_⟩
     .rw[V]at l;cases l
     .rw[V]at l;cases l;rw[F.block _ (kj.1 z).1 (by simpa using e)];exact⟨_,_,z⟩
  .exact⟨_,_,W⟩
def aA.EN{ok:br}{w:cg}{x:Va}{v:cm}(h:aA ok w x v):∃aa ac ta tc na nc VT VN,v=Go.Proofs.YtnamdihclpbdfabGreat.bg x.k x.n x.a x.s aa x.args.length ac ta x.types.length tc na x.code.length nc/\(x.code.length<=nc/\x.types.length<=tc)/\dw ok w x.types ta VT/\cK ok w x.code na VN:=by
 cases h with
 | mk V VT VN f d i m j l c b e g=>exact⟨_,_,_,_,_,_,VT,VN,rfl,OK,c,b⟩
def aA.Yr{ok:br}{x:Va}{k n a:Int}{s:bp}{b ta na:bj}{al d tl tc l nc:Nat}(h:aA ok w x (Go.Proofs.YtnamdihclpbdfabGreat.bg k n a s b al d ta tl tc na l nc)):x.code.length<=nc:=by have⟨c,f,m,o,i,j,q,p,e,g,_⟩:=h.EN;unfold Go.Proofs.YtnamdihclpbdfabGreat.bg at e;simp only[ja4,jc3,qb6,ye,and_true]at e;obtain⟨_,_,_,_,_,_,rfl,rfl,rfl⟩:=e;exact g.1
def Nj{u:bo}{e:Ending}(h:bU B O w mb en aC m k n a s aa al ac ta tl tc na nl nc sv fv us fs)(l:IW B w mb fv u e w'):(∀(b:Nat) (x:Obj),w.heap[b]?=some x->¬O b->w'.heap[b]?=some x)/\∃c,w'.heap[mb]?=some (.cells (yG en aC m.paid m.aO k n a s aa al ac ta tl tc na nl nc sv c) 197):=by obtain⟨rfl,c,w1,g,o,rfl⟩:=l;have d:cq w1 (w1.setCell ⟨mb,15,none⟩ c) (some mb):=eF (bf _ _) _ _ _;refine⟨λb x j i=>?_,c,(nG ((g.block (h.high _ h.mine.1) h.apart.2.2.symm).trans h.blk) c).2.1⟩;have f:=(kj.1 j).1;exact (d.block b (kh f g.1.size) (by intro e;cases e;exact i h.mine.1)).trans ((g.1.block b f (λe=>i (h.mine.2 b e.symm))).trans j)
def YQ (p q mb:Nat) (x y:Obj) (v:cm) (w:cg):Prop:=w.heap[p]?=some x/\w.heap[q]?=some y/\w.cell? ⟨mb,14,none⟩=some v
def Nk{t:Tr}{nk V:Int}{ns:bp}{l:bj}{q p:Nat}{x y:Va}{st:ao}(h:dm B O w mb en aC m)(aO:m.st=x::y::st)(az:m.fr.length<=50000000) :
 Calls prog 196 #[.po mb,af nk V 67 ns l q p] w (jK B O w mb en aC (.go { m with st:=[x],fr:=⟨y.code,67,[],st.reverse⟩::m.fr })):=by
 have I:=jh (h.qb (jn _));have⟨k,n,a,s,aa,al,ac,ta,tl,tc,na,nl,nc,sv,fv,us,fs,h⟩:=h;have Q:=aK (w:=w) (kI nk V 67 ns l q p);have⟨C,ae,HT,bn⟩:=we (xF w (kI nk V 67 ns l q p)) Q (yA (h.grow Q) aO) az;clear h aO az Q;generalize hQ:jK B O w mb en aC (.go { m with st:=[x],fr:=⟨y.code,67,[],st.reverse⟩::m.fr })=Q0;have HQ:=jh hQ;clear hQ;unfold af;go_enter func196,ntmps196;unfold kI at C ae HT;go_wp2_with (first
  | (go_at_call 191;(with_reducible refine HT.out.mono ?_);clear HT;rintro e w1 ⟨v1,rfl,N,hF,ck,cl,hM⟩;obtain⟨k1,n1,a1,s1,J,M,L,W,fE,X,S,U,T,rfl⟩:=N.bg;have bx:=jh N;have G:=jh hF;have an:=jh (Cv hM (x:=y) (st:=st) rfl);clear N hF hM;unfold bg)
  | (go_at_call 191;(with_reducible refine an.out.mono ?_);clear an;rintro e A ⟨v2,rfl,N,hF,g,z,cn,ar,hM⟩;obtain⟨d,j,r,u,b,c,VA,VT,VN,rfl,hI,cd,_,aq⟩:=N.inv;have ax:=N.Yr;have ah:=jh (hF.lies bx.out);have cb:=jh aq;have bk:=jh ax;have bb:=jh ((hF.block _ (by have:=G.out.size;have:=(kj.1 C.out).1;omega) I.out).trans ((G.out.block _ (kj.1 C.out).1 I.out).trans C.out));have bm:=jh (((dB.grow ae.out).trans G.out).trans hF);have H:=jh hM;clear N hF hM hI cd aq ar ax;unfold bg))
 have⟨bq,bh,Z⟩:=JT (aJ (aK (w:=A) (.cells #[.i k1,.i n1,.i a1,.string s1,.slice J M L,.slice W fE X,.slice S U T] 29)) (aK (.cells #[.i y.k,.i y.n,.i y.a,.string y.s,.slice d y.args.length j,.slice r y.types.length u,.slice b y.code.length c] 29))) (aB (o:=(.cells #[.i y.k,.i y.n,.i y.a,.string y.s,.slice d y.args.length j,.slice r y.types.length u,.slice b y.code.length c] 29)) (xF A (.cells #[.i k1,.i n1,.i a1,.string s1,.slice J M L,.slice W fE X,.slice S U T] 29))) (xF (A.alloc (.cells #[.i k1,.i n1,.i a1,.string s1,.slice J M L,.slice W fE X,.slice S U T] 29)) (.cells #[.i y.k,.i y.n,.i y.a,.string y.s,.slice d y.args.length j,.slice r y.types.length u,.slice b y.code.length c] 29));simp only[qh0]at Z;generalize (A.alloc _).alloc _=W4 at *;have v:cq A W4.drew none:=aJ bq.out (kY (bf _ _));have D:=jh (H.out.grow v);have⟨ab,ad,cc,ca⟩:=we (Dm (ra:=b) (rl:=y.code.length) (rc:=c) (op:=67) (wa:=none) (wl:=0) (wc:=0) (ba:=some ⟨g,0,none⟩) (bl:=st.length) (bc:=z) D.out (xo bn.out ov)) (bm.out.trans (dB.grow v)) ((dB.grow v).lies ah.out) ((dB.grow v).Kl cb.out);have P:YQ w.heap.size (A.heap.size+1) mb (kI nk V 67 ns l q p) (.cells #[.i y.k,.i y.n,.i y.a,.string y.s,.slice d y.args.length j,.slice r y.types.length u,.slice b y.code.length c] 29) (.o g st.length z) W4.drew:=⟨mH bb.out v,Z.out,(iM D.out.blk).2.2.2.2.2.2.2.1⟩;have K:=λ(w':cg) (h:YQ w.heap.size (A.heap.size+1) mb (kI nk V 67 ns l q p) (.cells #[.i y.k,.i y.n,.i y.a,.string y.s,.slice d y.args.length j,.slice r y.types.length u,.slice b y.code.length c] 29) (.o g st.length z) w')=>And.intro (bE h.1) (And.intro (cO h.2.1) h.2.2);have ak:Hid (¬O A.heap.size/\¬O (A.heap.size+1)):=⟨H.out.G5.qb (jn _),H.out.G5.qb (ka5 _)⟩;clear v;go_region_held3 (YQ w.heap.size (A.heap.size+1) mb (kI nk V 67 ns l q p) (.cells #[.i y.k,.i y.n,.i y.a,.string y.s,.slice d y.args.length j,.slice r y.types.length u,.slice b y.code.length c] 29) (.o g st.length z)) (first|with_reducible assumption|exact P)
  ((go_at_call 128;(refine ab.mono ?_);rintro e w5 hE;have⟨E,ch,R⟩:=Nj D hE;have cj:YQ w.heap.size (A.heap.size+1) mb (kI nk V 67 ns l q p) (.cells #[.i y.k,.i y.n,.i y.a,.string y.s,.slice d y.args.length j,.slice r y.types.length u,.slice b y.code.length c] 29) (.o g st.length z) w5:=⟨E _ _ P.1 I,E _ _ P.2.1 ak.2,(iM R).2.2.2.2.2.2.2.1⟩;have Y:=jh (E _ _ bh ak.1);have aj:=jh R;have F:=jh (D.exec (f:=⟨y.code,67,[],st.reverse⟩) ⟨rfl,rfl,rfl⟩ ca bk hE cc);obtain⟨rfl,_⟩:=hE;clear E R))
 have z5:=cO Y;have z6:=iM aj;have cf:mb<w5.heap.size:=(kj.1 aj).1;go_wp2_with fail;rw[<-HQ.out]
 first
  | exact (F _ rfl).trans ad
  | exact (F _ (by rw[World.setCell_alloc_past _ _ _ _ cf])).trans ad
end
open Pe Go.RowKit
section
variable {c:Mc}{m:Ma}{ps:Nat->Ma->Prop}
abbrev fm (m:Ma) (f:Fr):Ma:={ m with fr:=f::m.fr }
def YT (m:Ma) (s:ao) (f:Fr) (x y z:Nat) (i:Nat) (hop:f.op≠67/\bD f.op) (h1:okNs f.rest) (e1:x=5\/f.rest=[]) (h2:okNs f.row) (e2:y=5\/f.row=[]) (h3:okVs f.aside) (e3:z=7\/f.aside=[]) (hlen:m.fr.length<=50000000) (hi:∀u,ps i u->EM (sm m s) u:=by exact λ_ h=>h) (hj:∀u,EM (sm (fm m f) s) u->ps (i+1) u:=by exact λ_ h=>h):{ s:Sp // @Holds (c.res ps) prog s }:=pu (OZ (m:=sm m s) f x y z hop h1 e1 h2 e2 h3 e3 hlen) i hi hj
def YU{k:Int}(h:decide (k=67)=false:=by rfl):k≠67:=of_decide_eq_false h
abbrev Ef (l:aE):Fr:=⟨l,0,[],[]⟩
def TY (m:Ma) (s:ao) (l:aE) (i:Nat) (h:okNs l) (hlen:m.fr.length<=50000000) (hi:∀u,ps i u->EM (sm m s) u:=by exact λ_ h=>h) (hj:∀u,EM (sm (fm m (Ef l)) s) u->ps (i+1) u:=by exact λ_ h=>h):{ s:Sp // @Holds (c.res ps) prog s }:=YT m s (Ef l) 5 0 0 i ⟨YU,i64⟩ h (.inl rfl) trivial (.inr rfl) trivial (.inr rfl) hlen hi hj
def Ml{t:Tr}(P:t.p0=52\/t.p0=55\/t.p0=58\/t.p0=64)(E:okN t)(N:∃a b,t.args0=[a,b])(O:Fn m)(f:gJ t m ≠ .stuck):HO c m 195 [ndA t] (gJ t m):=by
 obtain⟨m,s,rfl⟩:∃M s,m=sm M s:=⟨m,m.st,rfl⟩;have⟨K,L,q⟩:=O;rcases s with _|⟨a,s⟩
 .exact absurd rfl f
 have⟨x,q2⟩:=K;have⟨k,n,i,z,r,y,d⟩:=a;have⟨C,R,A,S,ta⟩:=t;obtain⟨⟨T,U,V,W,l⟩,⟨X,Y,Z,yz,g⟩,rfl⟩:=N;have o:okNs l:=E.2.1.2;have p:okNs g:=E.2.2.1.2;have w:=GZ L;rcases (P:A=52\/A=55\/A=58\/A=64)with rfl|rfl|rfl|rfl
 .have Q:n=0\/n=1:=by
   by_cases h:n<0
   .exfalso;apply f;simp[gJ,ru,Tr.p0,Tr.args0,Va.n,Int.toNat_of_nonpos (Int.le_of_lt h),h]
   .obtain⟨j,rfl⟩:=Int.eq_ofNat_of_zero_le (Int.not_lt.1 h);rcases j with _|_|j
    .exact .inl rfl
    .exact .inr rfl
    .exact absurd rfl f
  rcases Q with rfl|rfl
  .simp only[gJ,ru,Tr.p0,Tr.args0,Va.n,Va.args,Int.reduceLT,and_false,↓reduceIte,Int.toNat_zero,km]at f|-;exact eH [sm m s,sm (fm m (Ef l)) s] func195 [tk m (.mk k 0 i z r y d) s 0,TY m s l 1 o q,pt (fm m (Ef l)) s r 2 x.2.1 f w]
  .simp only[gJ,ru,Tr.p0,Tr.args0,Va.n,Va.args,Int.reduceLT,and_false,↓reduceIte,Int.toNat_one,km,yW]at f|-;exact eH [sm m s,sm (fm m (Ef g)) s] func195 [tk m (.mk k 1 i z r y d) s 0,TY m s g 1 p q,pt (fm m (Ef g)) s r 2 x.2.1 f w]
 .rcases r with _|⟨u,_|⟨v,r⟩⟩
  .simp only[gJ,ru,Tr.p0,Tr.args0,Va.n,Va.args,Int.reduceEq,false_and,↓reduceIte,qa0,km]at f|-;exact eH [sm m s,sm (fm m (Ef l)) s] func195 [tk m (.mk k n i z [] y d) s 0,TY m s l 1 o q,pt (fm m (Ef l)) s [] 2 trivial f w]
  .simp only[gJ,ru,Tr.p0,Tr.args0,Va.n,Va.args,Int.reduceEq,false_and,↓reduceIte,jj,qa0,km,yW,qb4]at f|-;exact eH [sm m s,sm (fm m (Ef g)) s] func195 [tk m (.mk k n i z [u] y d) s 0,TY m s g 1 p q,pt (fm m (Ef g)) s [u] 2 x.2.1 f w]
  .exact absurd rfl f
 .rcases r with _|⟨⟨G,n1,F,J,H,I,D⟩,r⟩
  .simp only[gJ,ru,Tr.p0,Tr.args0,Va.n,Va.args,Int.reduceEq,false_and,↓reduceIte,km,yW]at f|-;exact eH [sm m s,sm (fm m (Ef g)) s] func195 [tk m (.mk k n i z [] y d) s 0,TY m s g 1 p q,pt (fm m (Ef g)) s [] 2 trivial f w]
  .simp only[gJ,ru,Tr.p0,Tr.args0,Va.n,Va.args,Int.reduceEq,false_and,↓reduceIte,km]at f|-;exact eH [sm m s,sm (fm m (Ef l)) s] func195 [tk m (.mk k n i z (.mk G n1 F J H I D::r) y d) s 0,up (EA 10 r),TY m s l 1 o q,pt (fm m (Ef l)) s [.mk G n1 F J H I D,mkV 10 r] 2 ⟨x.2.1.1,BK i64 x.2.1.2,trivial⟩ f w]
 .have B:=wX (.mk k n i z r y d)
  by_cases h:n=1
  .subst h;simp only[gJ,ru,Tr.p0,Tr.args0,Va.n,Va.args,Int.reduceEq,Int.reduceLT,and_false,↓reduceIte,km]at f|-;exact eH [sm m s,sm (fm m (Ef l)) s] func195 [tk m (.mk k 1 i z r y d) s 0,up B,TY m s l 1 o q,pt (fm m (Ef l)) s r 2 x.2.1 f w]
  .have e:gJ (.nd C R 64 S [.nd T U V W l,.nd X Y Z yz g]) (sm m (.mk k n i z r y d::s))=bz (sm (fm m (Ef g)) s) r:=by simp[gJ,ru,Tr.p0,Tr.args0,Va.n,Va.args,h]
   rw[e]at f|-;rw[show kJ (.mk k n i z r y d)=false from xb h]at B;exact eH [sm m s,sm (fm m (Ef g)) s] func195 [tk m (.mk k n i z r y d) s 0,up B,TY m s g 1 p q,pt (fm m (Ef g)) s r 2 x.2.1 f w]
def uE{t:Tr}(h:fu t):okT (kreadT t):=oM (by unfold fu at h;rw[qv]at h;exact h.2)
def Pf{t:Tr}(W:t.p0=60\/t.p0=65\/t.p0=66\/t.p0=68)(h:okN t)(w:t.p0≠66->∃a,t.args0=[a])(x:t.p0=66->∃a b d,t.args0=[a,b,d]/\fu a/\fu b)(V:Fn m)(f:mq t m ≠ .stuck):HO c m 196 [ndA t] (mq t m):=by
 obtain⟨m,s,rfl⟩:∃M s,m=sm M s:=⟨m,m.st,rfl⟩;have⟨I,U,v⟩:=V;have⟨C,Z,q,tz,ta⟩:=t;rcases (W:q=60\/q=65\/q=66\/q=68)with rfl|rfl|rfl|rfl
 .obtain⟨⟨j,l,o,p,g⟩,rfl⟩:=w (by show (60:Int)≠66;decide);rcases s with _|⟨⟨k,n,i,z,r,y,d⟩,s⟩
  .exact absurd rfl f
  simp only[mq,Tr.p0,↓reduceIte]at f|-;exact eH [sm m s] func196 [tk m (.mk k n i z r y d) s 0,YT m s ⟨[],60,g,r⟩ 0 5 7 1 ⟨YU,i64⟩ trivial (.inr rfl) h.2.1.2 (.inl rfl) I.1.2.1 (.inl rfl) v]
 .obtain⟨⟨j,l,o,p,g⟩,rfl⟩:=w (by show (65:Int)≠66;decide);simp only[mq,Tr.p0,Int.reduceEq,↓reduceIte]at f|-;exact eH [] func196 [YT m s ⟨[],65,g,[]⟩ 0 5 0 0 ⟨YU,i64⟩ trivial (.inr rfl) h.2.1.2 (.inl rfl) trivial (.inr rfl) v]
 .have⟨⟨j,l,o,p,g⟩,⟨E,F,G,H,D⟩,⟨Q,R,S,T,u⟩,e,A,B⟩:=x rfl;have e:ta=_:=e;subst e;have J:=tK h.2.1 A;have K:=tK h.2.2.1 B;have L:=uE A;have N:=uE B;have e:mq (.nd C Z 66 tz [.nd j l o p g,.nd E F G H D,.nd Q R S T u]) (sm m s)=bz (sm m s) [.mk 14 0 0 ⟨#[]⟩ [] [kreadT (.nd j l o p g),kreadT (.nd E F G H D)] u]:=rfl;rw[e]at f|-;clear e A B;generalize kreadT (.nd j l o p g)=X at J f L|-;generalize kreadT (.nd E F G H D)=Y at K f N|-;have⟨X,O⟩:=X;have⟨Y,P⟩:=Y;exact eH [] func196 [up J,up K,YV m s 14 0 0 ⟨#[]⟩ 0 2 5 [] [.nd X O,.nd Y P] u 0 ⟨⟨i64,i64,i64,ov⟩,trivial,⟨L,N,trivial⟩,h.2.2.2.1.2⟩ (.inr rfl) (.inl rfl) (.inl rfl) f U]
 .obtain⟨⟨j,l,o,p,g⟩,rfl⟩:=w (by show (68:Int)≠66;decide);rcases s with _|⟨⟨k,n,i,z,r,y,d⟩,s⟩
  .exact absurd rfl f
  simp only[mq,Tr.p0,Int.reduceEq,↓reduceIte]at f|-;exact eH [sm m s] func196 [tk m (.mk k n i z r y d) s 0,YT m s ⟨g,68,[],[.mk k n i z r y d]⟩ 5 0 7 1 ⟨YU,i64⟩ h.2.1.2 (.inl rfl) trivial (.inr rfl) ⟨I.1,trivial⟩ (.inl rfl) v]
def Cn (m:Ma) (a b:Va):Go.Proofs.YtnamdihclpbdfabGreat.Out:=match a.args,b.args with
 | x::_,y::z::_=>if y.n=0\/z.n=0\/wrap64 (y.n+z.n)≠a.n then bz m [noneV]else bz m [aV (aY (aM a.a y.n x) (aM a.a z.n x))]
 | _,_=>.stuck
def zg{a n:Int}{x:Va}(b:bD a)(hn:bD n)(h:okV x):okV (aM a n x):=⟨⟨i64,hn,b,ov⟩,⟨h,trivial⟩,trivial,trivial⟩
def Pp{a b:Va}(A:okV a)(hb:okV b)(f:Cn m a b ≠ .stuck)(j:m.st.length<=50000000):HO c m 232 [pF a,pF b] (Cn m a b):=by
 have⟨k,n,i,z,r,t,d⟩:=a;have⟨J,n1,G,R,B,O,D⟩:=b;rcases r with _|⟨⟨p,q,o,v,s,u,l⟩,r⟩
 .exact absurd rfl f
 rcases B with _|⟨⟨K,g,H,S,M,P,E⟩,_|⟨⟨L,h,I,T,N,Q,F⟩,B⟩⟩
 .exact absurd rfl f
 .exact absurd rfl f
 have e:Cn m (.mk k n i z (.mk p q o v s u l::r) t d) (.mk J n1 G R (.mk K g H S M P E :: .mk L h I T N Q F::B) O D)=if g=0\/h=0\/wrap64 (g+h)≠n then bz m [noneV]else bz m [aV (aY (aM i g (.mk p q o v s u l)) (aM i h (.mk p q o v s u l)))]:=rfl
 rw[e]at f|-;clear e;have C:IntKind.i64.wrap (g+h)=wrap64 (g+h):=by unfold wrap64;exact qa2 _
 by_cases w:g=0
 .subst w;simp only[true_or,↓reduceIte]at f|-;exact eH [] func232 [up H_none,pt m m.st [noneV] 0 ⟨ok_none,trivial⟩ f j]
 by_cases x:h=0
 .subst x;simp only[true_or,or_true,↓reduceIte]at f|-;exact sI [] [(20,bA false)] func232 [up H_none,pt m m.st [noneV] 0 ⟨ok_none,trivial⟩ f j] (ob:=[tl (decide (g=0)) false]) (fE (df w))
 by_cases y:wrap64 (g+h)=n
 .simp only[w,x,y,ne_eq,not_true_eq_false,or_self,↓reduceIte]at f|-;exact sI [] [(20,bA false),(23,bA false),(31,bA false)] func232 [up (AQ i g (.mk p q o v s u l)),up (AQ i h (.mk p q o v s u l)),up (pX (aM i g (.mk p q o v s u l)) (aM i h (.mk p q o v s u l))),up (mU (aY (aM i g (.mk p q o v s u l)) (aM i h (.mk p q o v s u l)))),
   pt m m.st [aV (aY (aM i g (.mk p q o v s u l)) (aM i h (.mk p q o v s u l)))] 0 ⟨pO (si (zg A.1.2.2.1 hb.2.1.1.1.2.1 A.2.1.1) (zg A.1.2.2.1 hb.2.1.2.1.1.2.1 A.2.1.1)),trivial⟩ f j] (ob:=[tl (decide (g=0)) false,tl (decide (h=0)) false,tl (!decide (IntKind.i64.wrap (g+h)=n)) false]) (IC (df w) (df x) (by rw[C,y];simp))
 .simp only[w,x,y,ne_eq,not_false_eq_true,or_true,↓reduceIte]at f|-;exact sI [] [(20,bA false),(23,bA false),(31,bA true)] func232 [up H_none,pt m m.st [noneV] 0 ⟨ok_none,trivial⟩ f j] (ob:=[tl (decide (g=0)) false,tl (decide (h=0)) false,tl (!decide (IntKind.i64.wrap (g+h)=n)) true]) (IC (df w) (df x) (by rw[C];exact nt y))
def XZ (m M:Ma) (y z:Va):Go.Proofs.YtnamdihclpbdfabGreat.Out:=match y.args,z.args with
 | u::_,v::_=>if y.a≠z.a\/Ij u v=false then bz m [noneV]else if (addN y.n z.n).2=0 then bz m [aV (aM y.a (addN y.n z.n).1 u)]else .no (addN y.n z.n).2 M
 | _,_=>.stuck
def Yl{a b:Int} : bD (addN a b).1:=by
 unfold addN;split
 .exact QB
 .exact i64
def SS{a b:Va}(N:okV a)(hb:okV b)(S:a.size<=20000000){M:Ma}(P:m.paid=M.paid/\m.said=M.said)(f:XZ m M a b ≠ .stuck)(h:m.st.length<=50000000):HO c m 233 [pF a,pF b] (XZ m M a b):=by
 have⟨k,n,i,z,r,t,d⟩:=a;have⟨T,n1,D,V,O,U,Q⟩:=b;rcases r with _|⟨⟨o,p,l,v,s,u,j⟩,r⟩
 .exact absurd rfl f
 rcases O with _|⟨⟨F,G,E,J,H,I,A⟩,O⟩
 .exact absurd rfl f
 have e:XZ m M (.mk k n i z (.mk o p l v s u j::r) t d) (.mk T n1 D V (.mk F G E J H I A::O) U Q)=if i≠D\/Ij (.mk o p l v s u j) (.mk F G E J H I A)=false then bz m [noneV]else if (addN n n1).2=0 then bz m [aV (aM i (addN n n1).1 (.mk o p l v s u j))]else .no (addN n n1).2 M:=rfl
 rw[e]at f|-;clear e
 by_cases K:i=D
 .subst K;have C:=aae (x:=.mk o p l v s u j) (y:=.mk F G E J H I A) N.2.1.1 hb.2.1.1 (by simp only[Va.size,vsizes]at S|-;omega);generalize Ij (.mk o p l v s u j) (.mk F G E J H I A)=q at C f|-
  cases q with
  | false =>
   simp only[or_true,↓reduceIte]at f|-;exact sI [] [(13,bA false)] func233 [up C,up H_none,pt m m.st [noneV] 0 ⟨ok_none,trivial⟩ f h] (ob:=[tl (!decide (i=i)) false]) (fE oe)
  | true =>
   simp only[ne_eq,not_true_eq_false,Bool.true_eq_false,or_self,↓reduceIte]at f|-;have L:=VI n n1;have w:=Yl (a:=n) (b:=n1);generalize addN n n1=g at L f w|-;have⟨g1,g2⟩:=g
   by_cases B:g2=0
   .subst B;simp only[↓reduceIte]at f|-;exact sI [] [(13,bA false)] func233 [up C,up L,up (AQ i g1 (.mk o p l v s u j)),up (mU (aM i g1 (.mk o p l v s u j))),pt m m.st [aV (aM i g1 (.mk o p l v s u j))] 0 ⟨pO (zg N.1.2.2.1 w N.2.1.1),trivial⟩ f h] (ob:=[tl (!decide (i=i)) false]) (fE oe)
   .simp only[B,↓reduceIte];exact Ol [] [(13,bA false),(39,bA true)] func233 [up C,up L] (ob:=[tl (!decide (i=i)) false,tl (!decide (g2=0)) true]) (sM oe (nt B)) (λx R=>by cases R;exact⟨B,P.1,P.2⟩)
 .simp only[K,ne_eq,not_false_eq_true,true_or,↓reduceIte]at f|-;exact sI [] [(13,bA true)] func233 [up H_none,pt m m.st [noneV] 0 ⟨ok_none,trivial⟩ f h] (ob:=[tl (!decide (i=D)) true]) (fE (nt K))
def Mw{p:Int}(N:p=84\/p=85\/p=86\/p=87)(P:bD c.en.self)(L:Fn m)(Q:∀x∈m.st,x.size<=20000000)(f:iB c.en p m ≠ .stuck):HO c m 200 [iA p] (iB c.en p m):=by
 obtain⟨m,s,rfl⟩:∃M s,m=sm M s:=⟨m,m.st,rfl⟩;have⟨J,H,U⟩:=L;rcases s with _|⟨a,s⟩
 .exact absurd rfl f
 have T:=Q a (.head _);have⟨A,R⟩:=J;have⟨k,n,i,z,r,t,d⟩:=a;rcases N with rfl|rfl|rfl|rfl
 .rcases s with _|⟨b,s⟩
  .exact absurd rfl f
  exact HO.of (bK func200) λO w S K I=>by
   match S,I with
   | [v],⟨I,_⟩=>rw[bW I];exact KO P K rfl f H
 .rcases r with _|⟨⟨l,n1,j,q,g,o,h⟩,r⟩
  .exact absurd rfl f
  simp only[iB,Int.reduceEq,↓reduceIte]at f|-;exact eH [sm m s] func200 [tk m (.mk k n i z (.mk l n1 j q g o h::r) t d) s 0,up (eU 7 i),up (eU 4 n),up (pX (.mk l n1 j q g o h) (aW 4 n)),up (pX (aW 7 i) (aY (.mk l n1 j q g o h) (aW 4 n))),pt m s [aY (aW 7 i) (aY (.mk l n1 j q g o h) (aW 4 n)),.mk k n i z (.mk l n1 j q g o h::r) t d] 1 ⟨si (oN i64 A.1.2.2.1) (si A.2.1.1 (oN i64 A.1.2.1)),A,trivial⟩ f (GZ H)]
 .rcases s with _|⟨b,s⟩
  .exact absurd rfl f
  have⟨l,n1,j,q,g,o,h⟩:=b;have e:iB c.en 86 (sm m (.mk k n i z r t d :: .mk l n1 j q g o h::s))=Cn (sm m s) (.mk k n i z r t d) (.mk l n1 j q g o h):=by
   rcases r with _|⟨x,r⟩
   .rfl
   .rcases g with _|⟨y,_|⟨w,g⟩⟩<;>simp only[iB,Cn,Va.args,Va.n,Va.a,Int.reduceEq,↓reduceIte]<;>rfl
  rw[e]at f|-;exact eH [sm m (.mk l n1 j q g o h::s),sm m s] func200 [tk m (.mk k n i z r t d) (.mk l n1 j q g o h::s) 0,tk m (.mk l n1 j q g o h) s 1,pu (Pp (m:=sm m s) A R.1 f (OU H)) 2]
 .rcases r with _|⟨⟨l,n1,j,q,g,o,h⟩,_|⟨⟨D,E,C,G,u,F,B⟩,r⟩⟩
  .exact absurd rfl f
  .exact absurd rfl f
  have e:iB c.en 87 (sm m (.mk k n i z (.mk l n1 j q g o h :: .mk D E C G u F B::r) t d::s))=XZ (sm m s) (sm m (.mk k n i z (.mk l n1 j q g o h :: .mk D E C G u F B::r) t d::s)) (.mk l n1 j q g o h) (.mk D E C G u F B):=by
   rcases g with _|⟨x,g⟩
   .rfl
   .rcases u with _|⟨y,u⟩<;>simp only[iB,XZ,Va.args,Va.n,Va.a,Int.reduceEq,↓reduceIte]<;>rfl
  rw[e]at f|-;exact eH [sm m s] func200 [tk m (.mk k n i z (.mk l n1 j q g o h :: .mk D E C G u F B::r) t d) s 0,pu (SS (m:=sm m s) (M:=sm m (.mk k n i z (.mk l n1 j q g o h :: .mk D E C G u F B::r) t d::s)) (a:=.mk l n1 j q g o h) (b:=.mk D E C G u F B) A.2.1.1 A.2.1.2.1 (by simp only[Va.size,vsizes]at T|-;omega) ⟨rfl,rfl⟩ f (GZ H)) 1]
end
open Pe
section
variable {c:Mc}{m:Ma}{ps:Nat->Ma->Prop}
def HO.node{f:FuncId}{t:Tr}{o:Go.Proofs.YtnamdihclpbdfabGreat.Out}(q:okN t)(j:∀(args:Array cm) (w:cg),(callFunc f args).run prog w =.ok (.enter f args) w)
 (h:∀O w k n s a l d,dm c.B O w c.mb c.en c.aC m->bI (λb=>¬O b) w t (af k n t.p0 s a l d)->Calls prog f #[.po (c.mb),af k n t.p0 s a l d] w (jK c.B O w c.mb c.en c.aC o)):HO c m f [ndA t] o :=
 HO.of j λO w r i g=>by
  match r,g with
  | [v],⟨g,_⟩ =>
   have e:=oK q g;obtain⟨k,n,p,s,a,l,d,rfl⟩:=e.af;obtain⟨_,_,rfl,_⟩:=vo e;exact h O w k n s a l d i e
def Gf{α:Type}{l:List α}{i:Nat}{v:α}(h:l[i]?=some v):l=l.take i++v::l.drop (i+1)/\(l.take i).length=i:=by obtain⟨a,rfl⟩:=qS.1 h;exact⟨by rw[List.getElem_cons_drop,qd1],ot⟩
def Ta{t:Tr}(e:t.p0=40\/t.p0=41\/t.p0=42\/t.p0=43\/t.p0=44)(J:okN t)(I:(t.p0=41\/t.p0=43\/t.p0=44)->0<t.args0.length)(P:Fn m)(b:p9 t m ≠ .stuck):HO c m 192 [ndA t] (p9 t m):=by
 obtain⟨m,s,rfl⟩:∃M s,m=sm M s:=⟨m,m.st,rfl⟩;have⟨N,u,T⟩:=P;have H:=bK func192;rcases e with e|e|e|e|e
 .have⟨K,R,L,S,ta⟩:=t;obtain rfl:L=40:=e;rcases s with _|⟨a,s⟩
  .exact absurd rfl b
  simp only[p9,Tr.p0,↓reduceIte]at b|-;exact Ol [sm m s] [] func192 [tk m a s 0] (ob:=[]) oe (λx Q=>Q)
 .unfold p9 at b|-;simp only[e,Int.reduceEq,↓reduceIte]at b|-
  by_cases g:1<=(dK t 0).n0
  .simp only[g,↓reduceIte]at b|-
   cases h:s[(dK t 0).n0.toNat - 1]? with
   | none=>rw[h]at b;exact absurd rfl b
   | some v =>
    simp only[h]at b|-;have⟨F,G⟩:=Gf h;refine HO.node J H λO w k n z a l d j f=>?_;rw[e]at f|-;exact QJ f (I (.inl e)) (by rw[G];omega) j F b u
  .simp only[g,↓reduceIte]at b;exact absurd rfl b
 .have⟨K,R,L,S,ta⟩:=t;obtain rfl:L=42:=e;rcases s with _|⟨⟨k,n,i,z,r,y,d⟩,_|⟨⟨B,n1,A,E,C,D,o⟩,s⟩⟩
  .exact absurd rfl b
  .exact absurd rfl b
  simp only[p9,Tr.p0,Int.reduceEq,↓reduceIte]at b|-;exact eH [sm m (.mk B n1 A E C D o::s),sm m s] func192 [tk m (.mk k n i z r y d) (.mk B n1 A E C D o::s) 0,tk m (.mk B n1 A E C D o) s 1,pt m s [.mk B n1 A E C D o,.mk k n i z r y d] 2 ⟨N.2.1,N.1,trivial⟩ b (OU u)]
 .unfold p9 at b|-;simp only[e,Int.reduceEq,↓reduceIte]at b|-
  by_cases g:0<=(dK t 0).n0
  .simp only[g,↓reduceIte]at b|-
   cases h:s[(dK t 0).n0.toNat]? with
   | none=>rw[h]at b;exact absurd rfl b
   | some v =>
    simp only[h]at b|-;have⟨F,G⟩:=Gf h;refine HO.node J H λO w k n z a l d j f=>?_;rw[e]at f|-;have:=QK f (I (.inr (.inl e))) (by rw[G];omega) j F u;rw[<-List.eraseIdx_eq_take_drop_succ]at this;exact this
  .simp only[g,↓reduceIte]at b;exact absurd rfl b
 .unfold p9 at b|-;simp only[e,Int.reduceEq,↓reduceIte]at b|-;rcases s with _|⟨v,s⟩
  .exact absurd rfl b
  simp only at b|-
  by_cases g:0<=(dK t 0).n0/\(dK t 0).n0<=s.length
  .simp only[g,and_self,↓reduceIte]at b|-;refine HO.node J H λO w k n z a l d j f=>?_;rw[e]at f|-;exact QL (m:=sm m (v::s)) (v:=v) (p:=s.take (dK t 0).n0.toNat) (q:=s.drop (dK t 0).n0.toNat) f (I (.inr (.inr e))) vl j (by rw[qd1]) u
  .simp only[g,↓reduceIte]at b;exact absurd rfl b
def Tf{t:Tr}(f:t.p0=88\/t.p0=89\/t.p0=90\/t.p0=91\/t.p0=92)(A:okN t)(Y:t.p0=88->∃a,t.args0=[a]/\fu a)(C:bD c.en.self/\bD c.en.sender/\bD c.en.amount/\bD c.en.balance)(x:Fn m)(b:iw c.en t m ≠ .stuck):HO c m 201 [ndA t] (iw c.en t m):=by
 rcases f with f|f|f|f|f
 rotate_left
 .exact HO.node A (bK func201) λO w k n z a l d h J=>by rw[f];exact RD f C.1 h rfl b x.st
 .exact HO.node A (bK func201) λO w k n z a l d h J=>by rw[f];exact RF f C.2.1 h rfl b x.st
 .exact HO.node A (bK func201) λO w k n z a l d h J=>by rw[f];exact RG f C.2.2.1 h rfl b x.st
 .exact HO.node A (bK func201) λO w k n z a l d h J=>by rw[f];exact RH f C.2.2.2 h rfl b x.st
 obtain⟨m,s,rfl⟩:∃M s,m=sm M s:=⟨m,m.st,rfl⟩;have⟨I,W,h3⟩:=x;have⟨L,Z,tp,tz,ta⟩:=t;obtain rfl:tp=88:=f;obtain⟨⟨P,Q,R,S,N⟩,rfl,K⟩:=Y rfl;have T:=tK A.2.1 K;have U:=uE K;rcases s with _|⟨⟨k,n,i,z,r,y,d⟩,_|⟨⟨E,n1,D,H,F,G,B⟩,_|⟨⟨p,g,o,v,q,u,j⟩,s⟩⟩⟩
 .exact absurd rfl b
 .exact absurd rfl b
 .exact absurd rfl b
 have e:iw c.en (.nd L Z 88 tz [.nd P Q R S N]) (sm m (.mk k n i z r y d :: .mk E n1 D H F G B :: .mk p g o v q u j::s))=bz (sm m s) [.mk 8 n1 g ⟨#[]⟩ [.mk k n i z r y d] [kreadT (.nd P Q R S N)] []]:=by simp only[iw,Tr.p0,Int.reduceEq,↓reduceIte];rfl
 rw[e]at b|-;clear e K;generalize kreadT (.nd P Q R S N)=X at T b U|-;have⟨X,V⟩:=X;exact eH [sm m (.mk E n1 D H F G B :: .mk p g o v q u j::s),sm m (.mk p g o v q u j::s),sm m s] func201 [tk m (.mk k n i z r y d) (.mk E n1 D H F G B :: .mk p g o v q u j::s) 0,tk m (.mk E n1 D H F G B) (.mk p g o v q u j::s) 1,tk m (.mk p g o v q u j) s 2,up T,YV m s 8 n1 g ⟨#[]⟩ 7 2 0 [.mk k n i z r y d] [.nd X V] [] 3 ⟨⟨i64,I.2.1.1.2.1,I.2.2.1.1.2.1,ov⟩,⟨I.1,trivial⟩,⟨U,trivial⟩,trivial⟩ (.inl rfl) (.inl rfl) (.inr rfl) b (Zu W)]
def VH (x:Va):Prop:=(∀s,oz x=some s->Hd ⟨229,[pF x],.rz [.one (.d (.v (.string s))),iA 0]⟩)/\(oz x=none->∃e,e≠0/\Hd ⟨229,[pF x],.rz [.one (.d (.v (.string ⟨#[]⟩))),iA e]⟩)
def SG (T:Ty) (s:bp):Prop:=Hd ⟨230,[tyA T,.one (.d (.v (.string s)))],match jw T s.toList with|some x=>.rz [pF x,iA 0]|none=>.rz [pF zeroVa,iA 1]⟩
def IB{s:bp}(h:s.size<=1000):okV (di s):=⟨⟨i64,i64,i64,XS⟩,trivial,trivial,trivial⟩
def Ji{x:Va}{s:bp}(h:oz x=some s):s.size<=200:=by
 unfold oz at h;split at h
 .simp only[qq]at h;subst h;show (5::encTr (dR x)).toArray.size<=200;simp;omega
 .cases h
def Vs{s:ao}{p q:Int}{t:bp}{ta:aE}{k n i:Int}{z:bp}{r:ao}{y:aw}{d:aE}{f g e:Int}{a:bp}{j:ao}{l:aw}{b:aE}{o:Go.Proofs.YtnamdihclpbdfabGreat.Out}(w:z.size<=1000)(x:a.size<=1000)(h:¬200<z.size+a.size)
 (hp:HO c (sm m s) 209 [.one (.d (.s 7 (vasD [di (z++a)])))] o):HO c (sm m (.mk k n i z r y d :: .mk f g e a j l b::s)) 199 [ndA (.nd p q 80 t ta)] o:=by
 have u:(z++a).size=z.size+a.size:=ByteArray.size_append;exact sI [sm m (.mk f g e a j l b::s),sm m s] [(44,.one (.d (.v (.string (z++a))))),(47,bA false)] func199 [tk m (.mk k n i z r y d) (.mk f g e a j l b::s) 0,tk m (.mk f g e a j l b) s 1,up (Pq (z++a)),pu hp 2]
  (ob:=[(if z.size+a.size<=9223372036854775807 then some (AV.of (.one (.d (.v (.string (z++a))))))else none)=some (AV.of (.one (.d (.v (.string (z++a)))))),tl (decide ((200:Int)<((z++a).size:Nat))) false])
  (by simp only[ke,qd7,or_false,forall_eq_or_imp,forall_eq];exact⟨if_pos od,zZ (df od)⟩)
def Vt{s:ao}{a e:Int}{f:bp}{ta:aE}{k n i:Int}{z u:bp}{r:ao}{y:aw}{d:aE}{o:Go.Proofs.YtnamdihclpbdfabGreat.Out}(b:Hd ⟨229,[pF (.mk k n i z r y d)],.rz [.one (.d (.v (.string u))),iA 0]⟩)
 (hp:HO c (sm m s) 209 [.one (.d (.s 7 (vasD [di u])))] o):HO c (sm m (.mk k n i z r y d::s)) 199 [ndA (.nd a e 81 f ta)] o :=
 eH [sm m s] func199 [tk m (.mk k n i z r y d) s 0,up b,up (Pq u),pu hp 1]
def UA {α:Type}(o:Option α) (f:α->Go.Proofs.YtnamdihclpbdfabGreat.Out) (n:Go.Proofs.YtnamdihclpbdfabGreat.Out):Go.Proofs.YtnamdihclpbdfabGreat.Out:=match o with
 | some x=>f x
 | none=>n
def NK(F:bp->Go.Proofs.YtnamdihclpbdfabGreat.Out)(N:Go.Proofs.YtnamdihclpbdfabGreat.Out)(o:Option bp):(match o with|some t=>F t|none=>N)=UA o F N:=by cases o<;>rfl
def D8{α:Type}(x:α)(f:α->Go.Proofs.YtnamdihclpbdfabGreat.Out)(n:Go.Proofs.YtnamdihclpbdfabGreat.Out):UA (some x) f n=f x:=rfl
def aew{t:Tr}(hT:∀x∈m.st,(dR x).size<=301->VH x)(hU:∀a,fu a->∀x∈m.st,x.s.size<=1000->SG (kreadT a) x.s)
 (hp:t.p0=45\/t.p0=80\/t.p0=81\/t.p0=82\/t.p0=83) (ht:okN t) (hz:t.size<=1000) (h45:t.p0=45->∃a b,t.args0=[a,b]/\fu a) (h82:t.p0=82->∃a,t.args0=[a]/\fu a/\∀x∈m.st.head?,x.s.size<=1000) (h80:t.p0=80->∀x∈m.st.take 2,x.s.size<=1000)
 (hf:Fn m) (hne:jQ t m ≠ .stuck) (hB:∀T s x,jw T s=some x->okV x) (hB2:∀T s x,jf T s=some x->okT T->okN s->okV x):HO c m 199 [ndA t] (jQ t m):=by
 by_cases D:t.p0=83
 .unfold jQ at hne|-;simp only[D,Int.reduceEq,↓reduceIte]at hne|-
  cases hs:m.st with
  | nil=>rw[hs]at hne;exact absurd rfl hne
  | cons x st =>
   exact HO.node ht (bK func199) λO w k n z a l d hM hL=>by rw[D];exact R9 hM hs
 replace hp:t.p0=45\/t.p0=80\/t.p0=81\/t.p0=82:=od
 obtain⟨m,s,rfl⟩:∃M s,m=sm M s:=⟨m,m.st,rfl⟩;have⟨h1,E,h3⟩:=hf;have⟨B,P,Z,Q,ta⟩:=t;rcases (hp:Z=45\/Z=80\/Z=81\/Z=82)with rfl|rfl|rfl|rfl
 .have⟨⟨g,j,p,q,f⟩,⟨S,U,V,W,R⟩,e,G⟩:=h45 rfl;obtain rfl:ta=_:=e;have C:=tK ht.2.1 G;have ox:=uE G
  cases I:jf (kreadT (.nd g j p q f)) (.nd S U V W R)with
  | none =>
   have e:jQ (.nd B P 45 Q [.nd g j p q f,.nd S U V W R]) (sm m s)=(match jf (kreadT (.nd g j p q f)) (.nd S U V W R)with|some v=>bz (sm m s) [v]|none=>.stuck):=by simp only[jQ,Tr.p0,↓reduceIte];rfl
   rw[e,I]at hne;exact absurd rfl hne
  | some v =>
   have e:jQ (.nd B P 45 Q [.nd g j p q f,.nd S U V W R]) (sm m s)=(match jf (kreadT (.nd g j p q f)) (.nd S U V W R)with|some v=>bz (sm m s) [v]|none=>.stuck):=by simp only[jQ,Tr.p0,↓reduceIte];rfl
   rw[e,I]at hne|-;simp only at hne|-;have hP:=Pv ox ht.2.2.1 (by simp only[Tr.size,sizes]at hz|-;omega) I;have F:=hB2 _ _ _ I ox ht.2.2.1;clear e I G;generalize kreadT (.nd g j p q f)=X at C hne ox hP|-;have⟨X,XA⟩:=X;have⟨k,n,i,z,r,y,d⟩:=v;exact eH [] func199 [up C,up hP,pt m s [.mk k n i z r y d] 0 ⟨F,trivial⟩ hne E]
 all_goals
  rcases s with _|⟨a,s⟩
  .exact absurd rfl hne
  have⟨q1,q2⟩:=h1;have⟨k,n,i,z,r,y,d⟩:=a;replace E:=GZ E
 .rcases s with _|⟨b,s⟩
  .exact absurd rfl hne
  have z1:z.size<=1000:=h80 rfl (.mk k n i z r y d) oe;have z2:b.s.size<=1000:=h80 rfl b oe;have⟨K,n1,J,w1,L,N,H⟩:=b;have z2:w1.size<=1000:=z2;have hs:(z++w1).size=z.size+w1.size:=ByteArray.size_append;have e:jQ (.nd B P 80 Q ta) (sm m (.mk k n i z r y d :: .mk K n1 J w1 L N H::s))=if 200<z.size+w1.size then .no 13 (sm m (.mk k n i z r y d :: .mk K n1 J w1 L N H::s))else bz (sm m s) [di (z++w1)]:=by simp only[jQ,Tr.p0,Int.reduceEq,↓reduceIte];rfl
  rw[e]at hne|-;have ab:(if z.size+w1.size<=9223372036854775807 then some (AV.of (.one (.d (.v (.string (z++w1))))))else none)=some (AV.of (.one (.d (.v (.string (z++w1)))))):=by rw[oc]
  by_cases h:200<z.size+w1.size
  .rw[if_pos h];exact Ol [sm m (.mk K n1 J w1 L N H::s),sm m s] [(44,.one (.d (.v (.string (z++w1))))),(47,bA true)] func199 [tk m (.mk k n i z r y d) (.mk K n1 J w1 L N H::s) 0,tk m (.mk K n1 J w1 L N H) s 1]
    (ob:=[(if z.size+w1.size<=9223372036854775807 then some (AV.of (.one (.d (.v (.string (z++w1))))))else none)=some (AV.of (.one (.d (.v (.string (z++w1)))))),tl (decide ((200:Int)<((z++w1).size:Nat))) true])
    (by simp only[ke,qd7,or_false,forall_eq_or_imp,forall_eq];exact⟨ab,zZ (dt od)⟩) (λx C=>by cases C;exact⟨ov,rfl,rfl⟩)
  .rw[if_neg h]at hne|-;exact Vs z1 z2 h (IX (c:=c) (m:=sm m s) (l:=[di (z++w1)]) 7 ⟨IB od,trivial⟩ (.inl rfl) hne (GZ (m:=m) E))
 .have e:jQ (.nd B P 81 Q ta) (sm m (.mk k n i z r y d::s))=if (dR (.mk k n i z r y d)).size<=301 then UA (oz (.mk k n i z r y d)) (λt=>bz (sm m s) [di t]) (.no 13 (sm m (.mk k n i z r y d::s)))else .stuck:=by
   simp only[jQ,Tr.p0,Int.reduceEq,↓reduceIte];exact congrArg (λx=>if (dR (.mk k n i z r y d)).size<=301 then x else .stuck) (NK (λt=>bz (sm m s) [di t]) (.no 13 (sm m (.mk k n i z r y d::s))) (oz (.mk k n i z r y d)))
  rw[e]at hne|-;clear e
  by_cases h:(dR (.mk k n i z r y d)).size<=301
  .have A:=hT _ (.head _) h;rw[if_pos h]at hne|-;have aa:=@Ji (.mk k n i z r y d)
   cases Y:oz (.mk k n i z r y d)with
   | some u =>
    rw[Y,D8]at hne;rw[D8];have hu:=aa Y;exact Vt (A.1 u Y) (IX (c:=c) (m:=sm m s) (l:=[di u]) 7 ⟨IB od,trivial⟩ (.inl rfl) hne E)
   | none =>
    have⟨e,he,hE⟩:=A.2 Y;rw[show UA none (λt=>bz (sm m s) [di t]) (.no 13 (sm m (.mk k n i z r y d::s))) =.no 13 (sm m (.mk k n i z r y d::s)) from rfl];exact Ol [sm m s] [(61,bA true)] func199 [tk m (.mk k n i z r y d) s 0,up hE] (fE (nt he)) (λx C=>by cases C;exact⟨ov,rfl,rfl⟩)
  .rw[if_neg h]at hne;exact absurd rfl hne
 .have⟨⟨g,j,p,q,f⟩,e,G,zx⟩:=h82 rfl;obtain rfl:ta=_:=e;have C:=tK ht.2.1 G;have A:=hU _ G _ (.head _) (zx _ rfl);have e:jQ (.nd B P 82 Q [.nd g j p q f]) (sm m (.mk k n i z r y d::s))=(match jw (kreadT (.nd g j p q f)) z.toList with|some v=>bz (sm m s) [aV v]|none=>bz (sm m s) [noneV]):=by simp only[jQ,Tr.p0,Int.reduceEq,↓reduceIte];rfl
  rw[e]at hne|-;clear e;unfold SG at A;have hb:=hB (kreadT (.nd g j p q f)) z.toList;simp only[Va.s]at A;generalize jw (kreadT (.nd g j p q f)) z.toList=o at A hne hb|-;clear G;generalize kreadT (.nd g j p q f)=X at C A|-;have⟨X,XA⟩:=X
  cases o with
  | some v =>
   have F:=hb v rfl;simp only at hne A|-;have⟨k3,n3,i3,z3,r3,t3,d3⟩:=v;exact eH [sm m s] func199 [tk m (.mk k n i z r y d) s 0,up C,up A,up (mU (.mk k3 n3 i3 z3 r3 t3 d3)),pt m s [aV (.mk k3 n3 i3 z3 r3 t3 d3)] 1 ⟨pO F,trivial⟩ hne E]
  | none =>
   simp only at hne A|-;exact eH [sm m s] func199 [tk m (.mk k n i z r y d) s 0,up C,up A,up H_none,pt m s [noneV] 1 ⟨ok_none,trivial⟩ hne E]
end
def Zf (k n p:Int) (s:bp) (a:X):A1:=.agg [.d (.v (.i k)),.d (.v (.i n)),.d (.v (.i p)),.d (.v (.string s)),a]
def AL(p:Int)(m:Nat)(es:List bd):Hd ⟨258,[iA p,.one (.d (.s m es))],.of (Zf 2 0 p ⟨#[]⟩ (.d (.s m es)))⟩:=aF func258 []
def AJ(n a b:Int):Hd ⟨259,[iA n,iA a,iA b],.of (iA (if n=0 then a else b))⟩:=by
 by_cases h:n=0
 .rw[if_pos h];exact runT func259 [(8,bA true)] [] (ob:=[jJ (decide (n=0)) true]) (al (eT (by simpa using h)) al0)
 .rw[if_neg h];exact runT func259 [(8,bA false)] [] (ob:=[jJ (decide (n=0)) false]) (al (eT (by simpa using h)) al0)
def Xp{ok:br}{w:cg}{k n p:Int}{s:bp}{m:Nat}{l:aE}{v:cm}(hm:m=5\/l=[])(h:iZ (λ_=>none) ok w (.of (Zf k n p s (.d (.s m (ndsD l))))) v):iZ (λ_=>none) ok w (.of (ndA (.nd k n p s l))) v:=by
 have⟨r,e,h⟩:=h
 match r,h with
 | [a,b,c,d,f],⟨i,j,o,q,g,_⟩=>exact⟨_,e,i,j,o,q,by rcases hm with rfl|rfl;exact g;exact gG g,trivial⟩
def ndS (s k:Nat) (xs:aE) (j:Nat):St:=match xs with
 | []=>[((0,s),.of nilA)]
 | _::_=>[((0,s),.of (.one (.g k 5 j))),((k+1,0),.kv 51 5 (ndsD xs))]
def elS (l xs:aE) (j:Nat):St:=[((0,6),.of (CW l)),((0,7),lW (ndsD l).length),((0,8),.of (jA j))]++ndS 3 3000016 xs j
def Qk{xs:aE}{j:Nat}(t:Tr)(a:xs.length=j)(h:j<=50000000):rowsLe ((ndsD xs).take j++[ndD t]) (ndsD (xs++[t]))/\zV 64 j (ndsD xs) [ndD t]:=by subst a;refine⟨?_,iL (by rw[Hf];omega) oe (by have⟨_,_,_,_,_⟩:=t;rfl) ot ov⟩;rw[ub (by rw[Hf];omega),ndsD_map,ndsD_map,ux];exact rows_refl _
def abt{l:aE}(r:l.length<=50000000):∀(m:aE) (j:Nat),j<=l.length->l.drop j=m->vO prog f260.ntmps ⟨gF f260,elS l ((l.take j).map eltT) j,2,ndS 3 3000016 (l.map eltT) l.length⟩
 | [],j,f,d=>by obtain rfl:j=l.length:=jh6 f (by have:=congrArg List.length d;simp at this;omega);have t:mD (aQ (decide (Int.ofNat l.length<((ndsD l).length:Int)))) (bA false):=wH (by simp[Hf]);rw[je7];cases l.map eltT<;>exact xQ (e:=1) [(9,bA false)] [] (al t al0)
 | .nd k n p s a::m,j,f,d=>by
  have g:j<l.length:=qa4 λh=>by rw[qb7 od]at d;cases d
  have o:l[j]?=some (.nd k n p s a):=by rw[kB g]at d;rw[qt g];exact congrArg some (qe2 d).1
  have i:=abt r m (j+1) g (by rw[kB g]at d;exact (qe2 d).2);have c:((l.take j).map eltT).length=j:=ot
  rw[show (l.take (j+1)).map eltT=(l.take j).map eltT++[.nd k n 28 s a] by rw[jc1,o];simp[eltT]]at i;generalize (l.take j).map eltT=w at i c|-;have⟨u,v⟩:=Qk (.nd k n 28 s a) c od;have q:=al (is_lt (show Int.ofNat j<((ndsD l).length:Int) by simp[Hf];omega)) (al (WV o) (al u (al v (al (yY (zF (b:=Int.ofNat (j+1)) oe ot ot):mD (lW (IntKind.i64.wrap (Int.ofNat j+1))) (jA (j+1))) al0))))
  cases w with
  | nil=>obtain rfl:j=0:=c.symm;exact LG [(9,bA true),(10,.one (.e (ndD (.nd k n p s a)) 0)),(2000016,CW [.nd k n 28 s a]),(17,jA (0+1))] [] i q
  | cons y x=>exact LG [(9,bA true),(10,.one (.e (ndD (.nd k n p s a)) 0)),(2000016,CW ((y::x)++[.nd k n 28 s a])),(17,jA (j+1))] [] i q
def Wz{l:aE}(e:l.length<=50000000):Hd ⟨260,[CW l],.of (CW (l.map eltT))⟩:=by
 have b:=abt e l 0 (yb _) rfl;have c:=wI (S:=elS l [] 0) (q:=gF f260=gF f260) rfl (ps:=[]) al0
 cases l with
 | nil=>exact (Ce func260 [] [_] (λx a=>by rw[qu]at a;subst a;exact b) [] c (res:=.of nilA)).conv (λ_ _ _ h=>h) λ_ _ _ h=>gG h
 | cons y d=>exact Ce func260 [] [_] (λx a=>by rw[qu]at a;subst a;exact b) [] (jX c (al (show (y::d).length=(ndsD ((y::d).map eltT)).length by rw[Hf,xj]) al0))
def Mx(k n a:Int)(s:bp)(az:ao)(ty:aw)(co:aE){l:aE}(hl:l.length<=50000000):Hd ⟨252,[pF (.mk k n a s az ty co),CW l],.of (ndA (aL (.mk k n a s az ty co) l))⟩:=by
 have hE:=Wz hl;have hl0:(if ((ndsD l).length:Int)=0 then (27:Int)else 26)=if l.length=0 then 27 else 26:=by rw[ndsD_map,xj];simp
 have cv:∀{k' n' p':Int} {s':bp} (m:Nat) {l':aE},aL (.mk k n a s az ty co) l =.nd k' n' p' s' l'->m=5\/l'=[]->Hd ⟨252,[pF (.mk k n a s az ty co),CW l],.of (Zf k' n' p' s' (.d (.s m (ndsD l'))))⟩->Hd ⟨252,[pF (.mk k n a s az ty co),CW l],.of (ndA (aL (.mk k n a s az ty co) l))⟩:=λm _ e hm h=>by rw[e];exact h.conv (λ_ _ _ h=>h) (λ_ _ _ h=>Xp hm h)
 by_cases h1:k=1
 .subst h1;exact cv 0 rfl (.inr rfl) (aF func252 [⟨_,AL 20 0 []⟩])
 by_cases h2:k=2
 .subst h2;exact cv 0 rfl (.inr rfl) (aF func252 [⟨_,AJ n 22 21⟩,⟨_,AL (if n=0 then 22 else 21) 0 []⟩])
 by_cases h3:k=3\/k=4\/k=5\/k=7
 .rcases h3 with rfl|rfl|rfl|rfl<;>exact cv 0 rfl (.inr rfl) (aF func252 [])
 by_cases h6:k=6
 .subst h6;exact cv 0 rfl (.inr rfl) (aF func252 [])
 by_cases h9:k=9
 .subst h9;exact cv 5 (p':=if ((ndsD l).length:Int)=0 then 27 else 26) (by rw[hl0];rfl) (.inl rfl) (aF func252 [⟨_,AJ (ndsD l).length 27 26⟩,⟨_,AL (if ((ndsD l).length:Int)=0 then 27 else 26) 5 (ndsD l)⟩])
 by_cases h11:k=11
 .subst h11;exact cv 5 rfl (.inl rfl) (aF func252 [⟨_,AL 23 5 (ndsD l)⟩])
 by_cases h12:k=12
 .subst h12;exact cv 5 rfl (.inl rfl) (aF func252 [⟨_,AJ n 24 25⟩,⟨_,AL (if n=0 then 24 else 25) 5 (ndsD l)⟩])
 by_cases h10:k=10
 .subst h10;exact cv 5 rfl (.inl rfl) (aF func252 [])
 by_cases h13:k=13
 .subst h13;exact cv 5 rfl (.inl rfl) (aF func252 [⟨_,hE⟩])
 .have e:aL (.mk k n a s az ty co) l =.nd (-1) 0 0 ⟨#[]⟩ []:=by simp[aL,Va.k,h1,h2,h3,h6,h9,h11,h12,h10,h13]
  have q:∀j:Int,k≠j->nq k j:=λj h=>oL h;exact cv 0 e (.inr rfl) (runT func252 [(8,fA),(11,fA),(17,fA),(18,fA),(19,fA),(20,fA),(25,fA),(30,fA),(37,fA),(41,fA),(48,fA),(52,fA)] [] (ob:=[nq k 1,nq k 2,nq k 3,nq k 4,nq k 5,nq k 7,nq k 6,nq k 9,nq k 11,nq k 12,nq k 10,nq k 13]) (by simp only[ke,qd7,or_false,forall_eq_or_imp,forall_eq];refine⟨q _ h1,q _ h2,q _ ?_,q _ ?_,q _ ?_,q _ ?_,q _ h6,q _ h9,q _ h11,q _ h12,q _ h10,q _ h13⟩<;>omega))
def Uz{l:aE}(h:okNs l):okNs (l.map eltT):=okNs_at.2 λt b=>by obtain⟨u,c,rfl⟩:=kl.1 b;have:=okNs_at.1 h u c;have⟨k,n,p,s,a⟩:=u;exact⟨⟨this.1.1,this.1.2.1,i64,this.1.2.2.2⟩,this.2⟩
def Yn{x:Va}(c:okV x){l:aE}(hk:okNs l):okN (aL x l):=by
 have⟨k,n,a,s,g,f,e⟩:=x;have⟨⟨_,d,_,b⟩,_⟩:=c;unfold aL gW
 repeat' split
 all_goals first
  | exact⟨⟨i64,i64,i64,yb _⟩,trivial⟩
  | exact⟨⟨i64,i64,i64,yb _⟩,hk⟩
  | exact⟨⟨i64,d,i64,yb _⟩,trivial⟩
  | exact⟨⟨i64,i64,i64,b⟩,trivial⟩
  | exact⟨⟨i64,i64,i64,yb _⟩,Uz hk⟩
  | (refine⟨⟨i64,i64,?_,yb _⟩,?_⟩;split<;>exact i64;first|trivial|exact hk)
mutual
def okN_tell:∀(x:Va) (c:Nat),okV x->okN (jg c x).2
 | .mk k n a s b e d,c,h=>by rw[jg];exact Yn h (okNs_tell b (c+1) h.2.1)
def okNs_tell:∀(l:ao) (c:Nat),okVs l->okNs (dJ c l).2
 | [],_,_=>by rw[dJ];trivial
 | x::l,c,h=>by
  rw[dJ];split
  .trivial
  .exact⟨okN_tell x c h.1,okNs_tell l _ h.2⟩
end
def tells_len:∀(l:ao) (c:Nat),(dJ c l).2.length<=l.length
 | [],_=>by simp[dJ]
 | x::l,c=>by
  rw[dJ];split
  .simp
  .have:=tells_len l (jg c x).1;simpa using this
def ab5{x:Va}{i:Nat}{l:aE}(hi:i=5\/l=[])(e:l.length<=50000000):Hd ⟨252,[pF x,.one (.d (.s i (ndsD l)))],.of (ndA (aL x l))⟩:=by
 have⟨k,n,a,s,j,ty,co⟩:=x;have h:=Mx k n a s j ty co e;refine⟨tF func252 (nk:=yC _),λok w g f=>?_⟩
 match g,f with
 | [u,v],⟨c,b,_⟩=>exact h.runN rfl ok w [u,v] ⟨c,by rcases hi with rfl|rfl;exact b;exact gG b,trivial⟩
abbrev tlC:X:=.c 251 [800100,800101]
def tlH (c:Nat):Hp:=⟨[(800100,[.d (.v (.i (.ofNat c)))]),(800101,[tlC])],[]⟩
def TlH (x:Va):Prop:=∀c:Nat,c<=300->HX 251 [pF x,.one (.p 800100 0),.one (.p 800101 0)] (.of (ndA (jg c x).2)) (tlH c) (tlH (jg c x).1)
def vaB (x:Va):St:=[((4,0),.of (iA x.k)),((4,1),.of (iA x.n)),((4,2),.of (iA x.a)),((4,3),.of (.one (.d (.v (.string x.s))))),((4,4),.of (qi x.args)),((4,5),.of (dZ x.types)),((4,6),.of (CW x.code))]
def tlQ (x:Va) (xs:aE) (j c:Nat):St:=[((0,3),.of (.one (.p 3 0))),((0,4),.of (.one (.p 4 0))),((5,0),.of (iA 0)),((5,1),.of (iA 0)),((5,2),.of (iA 0)),((5,3),.of (.one (.d (.v (.string ⟨#[]⟩))))),((5,4),.of nilA),((800101,0),.of (jA c)),((800102,0),.of (.one tlC))]++vaB x++ndS 5 3000024 xs j
def tlS (x:Va) (l:ao) (xs:aE) (j c:Nat):St:=[((0,1),.of (.one (.p 800100 0))),((0,2),.of (.one (.p 800101 0))),((0,11),.of (qi l)),((0,12),lW (vasD l).length),((0,13),.of (jA j))]++tlQ x xs j c
abbrev tlL (β:Nat->Option Nat) (S:St) (q:St):Prop:=@vO (qh β) prog f251.ntmps ⟨gF f251,S,2,q⟩
def abQ{x:Va}{az:ao}(D:az.length<=20000000)(H:∀y∈az,TlH y):∀(l:ao) (j:Nat),j<=az.length->az.drop j=l->∀(xs:aE) (c m:Nat),xs.length=j->c<=301->m=j+(dJ c l).2.length ->
 ∀β,tlL β (tlS x az xs j c) (tlQ x (xs++(dJ c l).2) m (dJ c l).1)
 | [],j,i,f,xs,c,m,q,E,g=>λβ=>by obtain rfl:j=az.length:=jh6 i (by have:=congrArg List.length f;simp at this;omega);have r:mD (aQ (decide (Int.ofNat az.length<((vasD az).length:Int)))) (bA false):=wH (by simp[qY]);rw[dJ]at g|-;obtain rfl:m=az.length:=g;rw[qb0];cases xs<;>exact fF (e:=1) [(14,bA false)] [] (al r al0)
 | .mk k n a s d ty co::l,j,i,f,xs,c,m,q,E,g=>λβ=>by
  have o:j<az.length:=qa4 λh=>by rw[qb7 od]at f;cases f
  have u:az[j]?=some (.mk k n a s d ty co):=by rw[kB o]at f;rw[qt o];exact congrArg some (qe2 f).1
  have r:=is_lt (show Int.ofNat j<((vasD az).length:Int) by simp[qY];omega);rw[dJ]at g|-
  by_cases B:300<c
  .rw[if_pos B]at g|-;obtain rfl:m=j:=g;rw[qb0];cases xs<;>exact fF (e:=1) [(14,bA true),(15,.one (.e (vaD (.mk k n a s d ty co)) 0)),(18,bA true)] [] (al r (al (PT u) (al (is_lt (show (300:Int)<Int.ofNat c by simp;omega)) al0)))
  .rw[if_neg B]at g|-;have L:=tell_most (.mk k n a s d ty co) c od;have hF:=H _ (jz u) c od;have v:=abQ (x:=x) D H l (j+1) o (by rw[kB o]at f;exact (qe2 f).2) (xs++[(jg c (.mk k n a s d ty co)).2]) (jg c (.mk k n a s d ty co)).1 m (by simp[q]) od (by rw[g,jj];omega) β;rw[qa6]at v;generalize K:jg c (.mk k n a s d ty co)=p at *;have⟨J,⟨w,z,p2,A,t⟩⟩:=p;have⟨F,G⟩:=Qk (.nd w z p2 A t) q od;have C:=al r (al (PT u) (al (wH (show ¬(300:Int)<Int.ofNat c by simp;omega)) (al F (al G (al (yY (zF (b:=Int.ofNat (j+1)) oe ot ot):mD (lW (IntKind.i64.wrap (Int.ofNat j+1))) (jA (j+1))) al0)))))
   cases xs with
   | nil=>obtain rfl:j=0:=q.symm;exact jC [(14,bA true),(15,.one (.e (vaD (.mk k n a s d ty co)) 0)),(18,bA false),(2000024,CW [.nd w z p2 A t]),(25,jA (0+1))] [⟨_,hF⟩] v C
   | cons y I=>exact jC [(14,bA true),(15,.one (.e (vaD (.mk k n a s d ty co)) 0)),(18,bA false),(2000024,CW ((y::I)++[.nd w z p2 A t])),(25,jA (j+1))] [⟨_,hF⟩] v C
mutual
def H_tl:∀x:Va,okV x->x.size<=20000000->TlH x
 | .mk k n a s b h f,d,B=>λc w=>by
  have e:=eP (.mk k n a s b h f);have z:=kS b;have g:=abQ (x:=.mk k n a s b h f) (az:=b) (by simp only[Va.args]at e;omega) (H_tls b d.2.1 (by simp only[Va.args]at e;omega)) b 0 (yb _) rfl [] (c+1) _ rfl od rfl;have r:mD (lW (IntKind.i64.wrap (Int.ofNat c+1))) (jA (c+1)):=yY (zF oe ot ot);have j:=wI (S:=tlS (.mk k n a s b h f) b [] 0 (c+1)) (q:=gF f251=gF f251) rfl (ps:=[mD (lW (IntKind.i64.wrap (Int.ofNat c+1))) (jA (c+1))]) (al r al0);have A:=tells_len b (c+1);have hW:=λi o=>ab5 (x:=.mk k n a s b h f) (i:=i) (l:=(dJ (c+1) b).2) o (by simp only[Va.args]at e;omega);rw[jg];simp only[qe4,qb4]at g|-;generalize dJ (c+1) b=p at g hW|-;have⟨v,l⟩:=p;simp only at g hW|-;generalize aL (.mk k n a s b h f) l=t at hW|-;have⟨C,D,p2,E,u⟩:=t
  cases l with
  | nil=>exact bH func251 [(9,jA (c+1))] [_] [⟨_,hW 0 (.inr rfl)⟩] (λβ x d=>by rw[qu]at d;subst d;exact g β) j
  | cons y m=>exact bH func251 [(9,jA (c+1))] [_] [⟨_,hW 5 (.inl rfl)⟩] (λβ x d=>by rw[qu]at d;subst d;exact g β) (jX j (al (show (y::m).length=(ndsD (y::m)).length by rw[Hf]) al0))
def H_tls:∀l:ao,okVs l->vsizes l<=20000000->∀y∈l,TlH y
 | [],_,_=>λ_ h=>by cases h
 | x::l,a,c=>λy b=>by
  rw[vsizes]at c
  by_cases e:y=x
  .rw[e];exact H_tl x a.1 od
  .exact H_tls l a.2 od y (by rcases ke.1 b with h|h;exact absurd h e;exact h)
end
def VB{x:Va}(b:okV x)(d:x.size<=20000000):Hd ⟨244,[pF x],.of (ndA (dR x))⟩:=by have h:=((H_tl x b d 0 od).to 800100 3).to 800101 4;unfold dR;generalize jg 0 x=p at h|-;have⟨c,⟨i,j,p2,l,e⟩⟩:=p;have⟨k,n,a,s,f,m,g⟩:=x;exact aF func244 [⟨_,h⟩]
def acP{t:Tr}(hk:okN t)(k:t.size<=1000000):Hd ⟨243,[ndA t],.rz [.one (.d (.v (.string (if dS t=0 then ⟨(encTr t).toArray⟩else ⟨#[]⟩)))),iA (dS t)]⟩:=⟨tF func243,λok w j h=>by
 match j,h with
 | [v],⟨g,_⟩ =>
  have f:bI (· < w.heap.size) w t v:=(oK hk g).ae λb i _=>i
  by_cases a:dS t=0
  .rw[if_pos a,a];refine (Ju f a).mono ?_;rintro e w' ⟨rfl,c⟩;exact⟨c,_,rfl,_,rfl,fI.v _,fI.v _,trivial⟩
  .rw[if_neg a];refine (Ni f od a).mono ?_;rintro e w' ⟨rfl,c⟩;exact⟨c,_,rfl,_,rfl,fI.v _,fI.v _,trivial⟩⟩
def Zn{k n a G H p2:Int}{s I z:bp}{az:ao}{ty:aw}{co B:aE}(C:Hd ⟨244,[pF (.mk k n a s az ty co)],.of (ndA (.nd G H p2 I B))⟩)
 (hE:Hd ⟨243,[ndA (.nd G H p2 I B)],.rz [.one (.d (.v (.string z))),iA 0]⟩) (hz:z.size<=64500):Hd ⟨229,[pF (.mk k n a s az ty co)],.rz (if z.size<=199 then [.one (.d (.v (.string (⟨#[5]⟩++z)))),iA 0]else [.one (.d (.v (.string ⟨#[]⟩))),iA 4])⟩:=by
 have S:mD (lW (IntKind.i64.wrap (1+(z.size:Int)))) (iA (1+z.size)):=yY vf
 by_cases D:z.size<=199
 .rw[if_pos D];refine⟨tF func229,λok w T h=>?_⟩
  match T,h with
  | [v],⟨h,_⟩ =>
   have t:=jh λi m=>C.runN rfl ok i [v] ⟨m,trivial⟩;have r:=jh λi u m=>hE.runN rfl (λ_=>True) i [u] ⟨m,trivial⟩;have A:=jh h;have R:¬(200:Int)<1+(z.size:Int):=od
   have U:IntKind.i64.wrap (1+(z.size:Int))=1+(z.size:Int):=vf
   obtain⟨us,rfl,h⟩:=h
   match us,h with
   | [J,K,L,M,N,O,P],_ =>
    have p:=jh (t (w.alloc (.cells #[J,K,L,M,N,O,P] 29)) (gm.keep ⟨oe,λb Q hk=>⟨hk,λo=>kd (ka4 _ _ Q)⟩⟩ (λ_ _ e=>e) _ _ A));clear t;go_enter func229,ntmps229;go_wp2_with fail;refine p.mono ?_;rintro e w1 ⟨c,u,rfl,g⟩;have j:=jh (aJ (aK _) c);have q:=jh (r w1 u (gm.keep ⟨jn _,λ_ _ _=>⟨trivial,λ_=>rfl⟩⟩ (λ_ _ e=>e) _ _ g));obtain⟨us,rfl,_⟩:=g;clear c p r A;go_wp2_with fail;refine q.mono ?_;rintro e i ⟨f,u,rfl,us,rfl,g⟩
    match us,g with
    | [x,y],⟨E,F,_⟩ =>
     rw[bW E,bW F];have l:=jh (aJ j f);clear f E F q;go_wp2_with fail;go_ret2;exact⟨l,_,rfl,_,rfl,fI.v _,fI.v _,trivial⟩
 .rw[if_neg D];exact runT func229 [(17,iA (1+z.size)),(18,bA true)] [⟨_,C⟩,⟨_,hE⟩] (al S (al (is_lt (show (200:Int)<1+z.size by omega)) al0))
def acQ{x:Va}(h:okV x)(q:x.size<=20000000)(y:(dR x).size<=301):Hd ⟨229,[pF x],.rz (if dS (dR x)=0 then if (encTr (dR x)).length<=199 then [.one (.d (.v (.string ⟨(5::encTr (dR x)).toArray⟩))),iA 0]else [.one (.d (.v (.string ⟨#[]⟩))),iA 4]else [.one (.d (.v (.string ⟨#[]⟩))),iA (dS (dR x))])⟩:=by
 have m:=VB h q;have j:=acP (t:=dR x) (okN_tell x 0 h) od;generalize z:dR x=t at *;have⟨e,f,p2,i,b⟩:=t;have⟨k,n,a,s,r,A,u⟩:=x
 by_cases c:dS (.nd e f p2 i b)=0
 .have⟨o,w⟩:=iV c;have p:=tX 1 _ o od;rw[if_pos c,c]at j;have l:(⟨(encTr (.nd e f p2 i b)).toArray⟩:bp).size=(encTr (.nd e f p2 i b)).length:=by simp[ByteArray.size]
  have:=Zn m j od;rw[l,show (⟨#[5]⟩:bp)++⟨(encTr (.nd e f p2 i b)).toArray⟩=⟨((5:UInt8)::encTr (.nd e f p2 i b)).toArray⟩ by apply ByteArray.ext;simp[ByteArray.data_append]]at this;rw[if_pos c];exact this
 .rw[if_neg c]at j|-;generalize dS (.nd e f p2 i b)=g at *;exact runT func229 [(13,bA true)] [⟨_,m⟩,⟨_,j⟩] (al (oZ (zj c)) al0)
