import Derived.Test.YtnamdihclpbdfaaGreatKuZan
import Derived.RangeFuncFrom
import Derived.RangeFuncNested
import Derived.RangeFuncBound
import Derived.RangeFuncCalls
import Derived.RangeFuncLeaves
import Derived.RangeFuncBox
import Derived.Shelf.Abstract
import Derived.Shelf.RegionOpen
import Derived.OwnWalkIn
import Derived.TacticsInMore
import Derived.LoopNIn
import Derived.LoopIn
namespace Go.Proofs.YtnamdihclpbdfaaGreat
set_option linter.all false
open Go.Proofs.Tryz
open Go.ChangeShapes Go.WideShapes Go.ChangeAt Go.RowKit
set_option maxRecDepth 100000
set_option maxHeartbeats 1000000
structure dB (O:br) (w:cg) (O':br) (w':cg):Prop where
 os:w'.os=w.os
 tape:w'.tape=w.tape
 output:w'.output=w.output
 size:w.heap.size<=w'.heap.size
 block:∀b,b<w.heap.size->¬O b->w'.heap[b]?=w.heap[b]?
 new:∀b,O' b->O b\/w.heap.size<=b
def dB.refl(O:br)(w:cg):dB O w O w:=⟨rfl,rfl,rfl,jj _,λ_ _ _=>rfl,λ_ h=>.inl h⟩
def dB.trans{O d e:br}{w i j:cg}(h:dB O w d i)(k:dB d i e j):dB O w e j :=
 ⟨k.os.trans h.os,k.tape.trans h.tape,k.output.trans h.output,xo h.size k.size,λb c g=>(k.block b (kh c h.size) (λa=>by rcases h.new b a with f|f;exact g f;omega)).trans (h.block b c g),
  λb c=>by
   rcases k.new b c with a|a
   .exact h.new b a
   .exact .inr (xo h.size a)⟩
def dB.grow{O:br}{w w':cg}(h:cq w w' none):dB O w O w':=⟨h.os,h.tape,h.output,h.size,λb a _=>h.block b a oe,λ_ h=>.inl h⟩
def dB.ofRow{O:br}{w w':cg}{r:Option Nat}(h:cq w w' r)(d:∀g,r=some g->O g):dB O w O w' :=
 ⟨h.os,h.tape,h.output,h.size,λb c a=>h.block b c (λe=>a (d b e.symm)),λ_ h=>.inl h⟩
def qx (O:br) (v v':cm):br:=λb=>(O b/\v.ownBlock≠some b)\/v'.ownBlock=some b
def dB.gr{O:br}{w w':cg}{v v':cm}(h:Gr w v w' v')(c:∀g,v.ownBlock=some g->O g):dB O w (qx O v v') w' :=
 ⟨h.1.os,h.1.tape,h.1.output,h.1.size,λb a d=>h.1.block b a (λe=>d (c b e.symm)),λb a=>by
  rcases a with a|a
  .exact .inl a.1
  .rcases h.2 with e|⟨g,e,f⟩
   .rw[e]at a;exact .inl (c b a)
   .rw[e]at a;simp only[qq]at a;exact .inr od⟩
def dB.same{O c:br}{w w':cg}(h:dB O w c w'):Same (λb=>¬O b) w w':=λb o d a=>ke (h.block b a d)
def dB.lies{O c:br}{w w':cg}{x:Va}{u:cm}(h:dB O w c w')(i:aA (λb=>¬O b) w x u):aA (λb=>¬c b) w' x u :=
 ((i.ae (ok':=λb=>¬O b/\¬c b) (λb a f=>⟨f,λg=>by rcases h.new b g with e|e;exact f e;omega⟩)).same (λb o a d=>h.same b o a.1 d)).ae (λb _ a=>a.2)
def dB.Kl{O d:br}{w w':cg}{l:aE}{a:bj}{V:bt}(h:dB O w d w')(j:cK (λb=>¬O b) w l a V):cK (λb=>¬d b) w' l a V :=
 ((j.ae (ok':=λb=>¬O b/\¬d b) (λb c g=>⟨g,λi=>by rcases h.new b i with f|f;exact g f;omega⟩)).same (λb o c e=>h.same b o c.1 e)).ae (λb _ c=>c.2)
def dB.U5{O d:br}{w w':cg}{l:ao}{a:bj}{V:bt}(h:dB O w d w')(j:aT (λb=>¬O b) w l a V):aT (λb=>¬d b) w' l a V :=
 ((j.ae (ok':=λb=>¬O b/\¬d b) (λb c g=>⟨g,λi=>by rcases h.new b i with f|f;exact g f;omega⟩)).same (λb o c e=>h.same b o c.1 e)).ae (λb _ c=>c.2)
def dP (w:cg) (b:Nat):Prop:=∃cs e fz,w.heap[b]?=some (.cells cs e fz)/\2<=cs.size
def qz{w:cg}{b o:Nat}{u v:cm}(h0:w.cell? ⟨b,o,none⟩=some u)(h:w.cell? ⟨b,o+1,none⟩=some v):dP w b:=by
 unfold World.cell? at h
 cases a:w.heap[b]? with
 | none=>simp[a]at h
 | some d =>
  cases d with
  | cells cs e c =>
   refine⟨cs,e,c,a,?_⟩;simp only[a]at h;have:=(kj.1 h).1;omega
  | _=>simp[a]at h
def bI.LM{ok ok':br}{w:cg}{t:Tr}{v:cm}(h:bI ok w t v)(hm:∀b,dP w b->ok b->ok' b):bI ok' w t v:=by
 induction h with
 | mk V m e y u z g _ x =>
  refine .mk (hk:=by assumption) V m e y u z (λi j=>?_) x;have⟨b,o,q,f,k,n,p,s,a,l,c,r,h0,d⟩:=g i j;exact⟨b,o,q,hm b (qz h0 d.1) f,k,n,p,s,a,l,c,r,h0,d⟩
def cK.LM{ok ok':br}{w:cg}{l:aE}{a:bj}{V:bt}(h:cK ok w l a V)(hm:∀b,dP w b->ok b->ok' b):cK ok' w l a V :=
 ⟨h.1,λi d=>by have⟨b,o,j,g,k,n,p,s,a,l,c,m,e,f⟩:=h.2.1 i d;exact⟨b,o,j,hm b (qz e f.1) g,k,n,p,s,a,l,c,m,e,f⟩,λi d=>(h.2.2 i d).LM hm⟩
def aH.LM{ok ok':br}{w:cg}{t:Ty}{v:cm}(h:aH ok w t v)(hm:∀b,dP w b->ok b->ok' b):aH ok' w t v:=by
 induction h with
 | mk V m d r g _ q =>
  refine .mk V m d r (λi j=>?_) q;have⟨b,o,n,f,k,a,l,c,p,h0,e⟩:=g i j;exact⟨b,o,n,hm b (qz h0 e) f,k,a,l,c,p,h0,e⟩
def dw.LM{ok ok':br}{w:cg}{l:aw}{a:bj}{V:bt}(h:dw ok w l a V)(hm:∀b,dP w b->ok b->ok' b):dw ok' w l a V :=
 ⟨h.1,λi d=>by have⟨b,o,j,g,k,a,l,c,m,e,f⟩:=h.2.1 i d;exact⟨b,o,j,hm b (qz e f) g,k,a,l,c,m,e,f⟩,λi d=>(h.2.2 i d).LM hm⟩
def aA.LM{ok ok':br}{w:cg}{t:Va}{v:cm}(h:aA ok w t v)(hm:∀b,dP w b->ok b->ok' b):aA ok' w t v:=by
 induction h with
 | mk V f e r c j B y z l g p _ A =>
  refine .mk (hnk:=by assumption) V f e r c j B y z (l.LM hm) (g.LM hm) (λi q=>?_) A;have⟨b,o,u,m,k,n,a,s,aa,al,ac,ta,tl,tc,na,nl,nc,x,h0,d⟩:=p i q;exact⟨b,o,u,hm b (qz h0 d.1) m,k,n,a,s,aa,al,ac,ta,tl,tc,na,nl,nc,x,h0,d⟩
def aT.LM{ok ok':br}{w:cg}{l:ao}{a:bj}{V:bt}(h:aT ok w l a V)(hm:∀b,dP w b->ok b->ok' b):aT ok' w l a V :=
 ⟨h.1,λi c=>by have⟨b,o,g,f,k,n,a,s,aa,al,ac,ta,tl,tc,na,nl,nc,j,d,e⟩:=h.2.1 i c;exact⟨b,o,g,hm b (qz d e.1) f,k,n,a,s,aa,al,ac,ta,tl,tc,na,nl,nc,j,d,e⟩,λi c=>(h.2.2 i c).LM hm⟩
structure sU (B:Nat) (O:br) (w:cg) (l:ao) (v:cm) (us:bo):Prop where
 own:dF B w v us
 len:us.length=l.length
 lies:∀(i:Nat) (x:Va) (u:cm),l[i]?=some x->us[i]?=some u->aA (λb=>¬O b) w x u
 mine:∀g,v.ownBlock=some g->O g
def yF (ra:bj) (rl rc:Nat) (op:Int) (wa:bj) (wl wc:Nat) (aa:bj) (al ac:Nat):cm:=.agg #[.slice ra rl rc,.i op,.slice wa wl wc,.slice aa al ac]
def asideV:cm->cm
 | .agg cs=>(cs[3]?).getD (.n0)
 | v=>v
def lM (f:Fr) (u:cm):List Nat:=if f.op=67 then (asideV u).ownBlock.toList else []
def wU (B:Nat) (O:br) (w:cg) (f:Fr) (u:cm):Prop :=
 ∃ra rc wa wc aa ac VR VW,u=yF ra f.rest.length rc f.op wa f.row.length wc aa f.aside.length ac/\bD f.op/\(f.rest.length<=rc/\f.row.length<=wc/\f.aside.length<=ac)/\cK (λb=>¬O b) w f.rest ra VR/\cK (λb=>¬O b) w f.row wa VW /\
  (f.op=67->∃us,sU B O w f.aside (.slice aa f.aside.length ac) us)/\(f.op≠67->∃VA,aT (λb=>¬O b) w f.aside aa VA)
def jc (B:Nat) (O:br) (w:cg):List Fr->bo->Prop
 | [],[]=>True
 | f::fs,u::us=>wU B O w f u/\jc B O w fs us
 | [],_::_=>False
 | _::_,[]=>False
def keptBs:List Fr->bo->List Nat
 | f::fs,u::us=>lM f u++keptBs fs us
 | _,_=>[]
def kU (B:Nat) (w:cg) (v:cm) (us:bo):Prop:=w.ownsRow B 217 4 v us.length (flat us)
def yG (en:En) (aC paid aO k n a:Int) (s:bp) (aa:bj) (al ac:Nat) (ta:bj) (tl tc:Nat) (na:bj) (nl nc:Nat) (sv fv:cm):Array cm :=
 #[.i en.self,.i en.sender,.i en.amount,.i en.balance,.i aC,.i paid,.i aO,.i k,.i n,.i a,.string s,.slice aa al ac,.slice ta tl tc,.slice na nl nc,sv,fv]
structure bU (B:Nat) (O:br) (w:cg) (mb:Nat) (en:En) (aC:Int) (m:Ma) (k n a:Int) (s:bp) (aa:bj) (al ac:Nat) (ta:bj) (tl tc:Nat) (na:bj) (nl nc:Nat) (sv fv:cm) (us fs:bo):Prop where
 blk:w.heap[mb]?=some (.cells (yG en aC m.paid m.aO k n a s aa al ac ta tl tc na nl nc sv fv) 214)
 said:aA (λb=>¬O b) w m.said (bg k n a s aa al ac ta tl tc na nl nc)
 jL:sU B O w m.st.reverse sv us
 own:kU B w fv fs
 sZ:jc B O w m.fr.reverse fs
 nodup:(sv.ownBlock.toList++keptBs m.fr.reverse fs).Nodup
 mine:O mb/\∀g,fv.ownBlock=some g->O g
 low:∀b,O b->B<=b
 cells:∀b,O b->∃cs e,w.heap[b]?=some (.cells cs e)
 num:bD m.paid/\bD m.aO/\bD aC
def dm (B:Nat) (O:br) (w:cg) (mb:Nat) (en:En) (aC:Int) (m:Ma):Prop:=∃k n a s aa al ac ta tl tc na nl nc sv fv us fs,bU B O w mb en aC m k n a s aa al ac ta tl tc na nl nc sv fv us fs
def iT{w w':cg}{B:Nat}{e:TypeId}{size n:Nat}{v:cm}{xs:bo}(h:w.ownsRow B e size v n xs)(hb:∀g,v.ownBlock=some g->w'.heap[g]?=w.heap[g]?):w'.ownsRow B e size v n xs:=by
 refine⟨h.1,?_⟩;rcases h.2 with h|⟨g,a,b,rfl,c,d,f⟩
 .exact .inl h
 .exact .inr ⟨g,a,b,rfl,c,(hb g rfl).trans d,f⟩
def sU.kept{B:Nat}{O a:br}{w w':cg}{l:ao}{v:cm}{us:bo}(h:sU B O w l v us)(b:dB O w a w')(hb:∀g,v.ownBlock=some g->a g/\w'.heap[g]?=w.heap[g]?):sU B a w' l v us :=
 ⟨iT h.own λg e=>(hb g e).2,h.len,λi x u f d=>b.lies (h.lies i x u f d),λg c=>(hb g c).1⟩
def wU.kept{B:Nat}{O c:br}{w w':cg}{f:Fr}{u:cm}(h:wU B O w f u)(b:dB O w c w')(hb:∀g∈lM f u,c g/\w'.heap[g]?=w.heap[g]?):wU B c w' f u:=by
 obtain⟨r,s,t,wc,aa,ac,i,j,rfl,k,l,m,n,o,p⟩:=h;refine⟨r,s,t,wc,aa,ac,i,j,rfl,k,l,b.Kl m,b.Kl n,λa=>?_,λa=>?_⟩
 .have⟨us,d⟩:=o a;exact⟨us,d.kept b λg q=>hb g (by simp[lM,asideV,yF,a,q])⟩
 .have⟨e,d⟩:=p a;exact⟨e,b.U5 d⟩
def jc.kept{B:Nat}{O a:br}{w w':cg}(d:dB O w a w'):∀{fs:List Fr}{us:bo},jc B O w fs us->(∀g∈keptBs fs us,a g/\w'.heap[g]?=w.heap[g]?)->jc B a w' fs us
 | [],[],_,_=>trivial
 | f::fs,u::us,h,c=>⟨h.1.kept d λg b=>c g (by simp[keptBs,b]),jc.kept d h.2 λg b=>c g (by simp[keptBs,b])⟩
 | [],_::_,h,_=>h.elim
 | _::_,[],h,_=>h.elim
def wU.mine{B:Nat}{O:br}{w:cg}{f:Fr}{u:cm}(h:wU B O w f u){g:Nat}(a:g∈lM f u):O g/\∃cs,w.heap[g]?=some (.cells cs 29):=by
 obtain⟨t,v,x,wc,aa,ac,l,m,rfl,o,p,q,r,j,s⟩:=h;unfold lM at a;split at a
 .rename_i b;have⟨us,c⟩:=j b;have a:(Value.slice aa f.aside.length ac).ownBlock=some g:=Option.mem_toList.1 a;refine⟨c.mine g a,?_⟩;rcases c.own.2 with⟨e,_⟩|⟨n,d,i,e,_,k,_⟩
  .rw[e]at a;cases a
  .rw[e]at a;cases a;exact⟨_,k⟩
 .simp at a
def jc.mine{B:Nat}{O:br}{w:cg} : ∀{fs:List Fr}{us:bo},jc B O w fs us->∀g∈keptBs fs us,O g/\∃cs,w.heap[g]?=some (.cells cs 29)
 | f::fs,u::us,h,g,a=>by
  simp only[keptBs,ki]at a;rcases a with a|a
  .exact h.1.mine a
  .exact jc.mine h.2 g a
 | [],_,_,g,a=>by simp[keptBs]at a
 | _::_,[],h,_,_=>h.elim
section
variable {B:Nat}{O O':br}{w w':cg}{mb:Nat}{en:En}{aC:Int}{m:Ma}{k n a:Int}{s:bp}{aa:bj}{al ac:Nat}{ta:bj}{tl tc:Nat}{na:bj}{nl nc:Nat}{sv fv:cm}{us fs:bo}
def bU.high(h:bU B O w mb en aC m k n a s aa al ac ta tl tc na nl nc sv fv us fs)(b:Nat)(hb:O b):b<w.heap.size:=by have⟨cs,e,c⟩:=h.cells b hb;exact (kj.1 c).1
def bU.grow(h:bU B O w mb en aC m k n a s aa al ac ta tl tc na nl nc sv fv us fs)(i:cq w w' none):bU B O w' mb en aC m k n a s aa al ac ta tl tc na nl nc sv fv us fs:=by have f:dB O w O w':=dB.grow i;have d:∀g,O g->w'.heap[g]?=w.heap[g]?:=λg e=>i.block g (h.high g e) oe;exact⟨(d mb h.mine.1).trans h.blk,f.lies h.said,h.jL.kept f λg c=>⟨h.jL.mine g c,d g (h.jL.mine g c)⟩,iT h.own λg c=>d g (h.mine.2 g c),h.sZ.kept f λg c=>⟨(h.sZ.mine g c).1,d g (h.sZ.mine g c).1⟩,h.nodup,h.mine,h.low,λb e=>by rw[d b e];exact h.cells b e,h.num⟩
def Cx{W c:cg}{row:Option Nat}(f:cq W c row)(h:∀r,row=some r->¬dP W r){b:Nat}(hb:dP W b):c.heap[b]?=W.heap[b]?:=by have a:=hb;have⟨cs,e,i,g,_⟩:=hb;exact f.block b (kj.1 g).1 (λd=>h b d.symm a)
def DZ{W:cg}{r:Nat}(h:∃o:Obj,W.heap[r]?=some o/\o.isCells=false):¬dP W r:=by rintro⟨cs,e,d,c,_⟩;have⟨o,a,b⟩:=h;rw[c]at a;cases a;cases b
def vK{W a:cg}{row:Option Nat}{O:br}(d:cq W a row)(f:∀r,row=some r->¬dP W r/\¬O r):Same (λb=>¬O b/\dP W b) W a:=λb o c _=>ke (Cx d (λr e=>(f r e).1) c.2)
def Eo{W a:cg}{row:Option Nat}{x:Va}{u:cm}(f:cq W a row)(g:∀r,row=some r->¬dP W r/\¬O r)(h:aA (λb=>¬O b) W x u):aA (λb=>¬O b) a x u :=
 ((h.LM (ok':=λb=>¬O b/\dP W b) λb e c=>⟨c,e⟩).same (vK f g)).ae λb _ d=>d.1
def sU.turn{W a:cg}{row:Option Nat}{l:ao}{v:cm}{us:bo}(b:cq W a row)(c:∀r,row=some r->¬dP W r/\¬O r)(h:sU B O W l v us):sU B O a l v us:=by exact⟨iT h.own λg e=>b.block g (qb5 h.own g e).2 (λd=>(c g d.symm).2 (h.mine g e)),h.len,λi x u j f=>Eo b c (h.lies i x u j f),h.mine⟩
def jc.turn{W k:cg}{row:Option Nat}(g:cq W k row)(i:∀r,row=some r->¬dP W r/\¬O r):∀{fs:List Fr}{us:bo},jc B O W fs us->jc B O k fs us
 | [],[],_=>trivial
 | f::fs,u::us,h=>by
  refine⟨?_,jc.turn g i h.2⟩;obtain⟨v,w,x,wc,aa,ac,l,m,rfl,n,o,p,q,s,t⟩:=h.1;exact⟨v,w,x,wc,aa,ac,l,m,rfl,n,o,((p.LM (ok':=λb=>¬O b/\dP W b) λb e c=>⟨c,e⟩).same (vK g i)).ae λb _ d=>d.1,((q.LM (ok':=λb=>¬O b/\dP W b) λb e c=>⟨c,e⟩).same (vK g i)).ae λb _ d=>d.1,
   λa=>(s a).imp λus j=>j.turn g i,λa=>(t a).imp λy j=>((j.LM (ok':=λb=>¬O b/\dP W b) λb e c=>⟨c,e⟩).same (vK g i)).ae λb _ d=>d.1⟩
 | [],_::_,h=>h.elim
 | _::_,[],h=>h.elim
def bU.turn{row:Option Nat}(h:bU B O w mb en aC m k n a s aa al ac ta tl tc na nl nc sv fv us fs)(d:cq w w' row)(f:∀r,row=some r->¬dP w r/\¬O r):bU B O w' mb en aC m k n a s aa al ac ta tl tc na nl nc sv fv us fs:=by have i:∀b,O b->w'.heap[b]?=w.heap[b]?:=λb c=>d.block b (h.high b c) (λe=>(f b e.symm).2 c);exact⟨(i mb h.mine.1).trans h.blk,Eo d f h.said,h.jL.turn d f,iT h.own λg e=>i g (h.mine.2 g e),h.sZ.turn d f,h.nodup,h.mine,h.low,λb c=>by rw[i b c];exact h.cells b c,h.num⟩
def bU.stack(h:bU B O w mb en aC m k n a s aa al ac ta tl tc na nl nc sv fv us fs)(l:dB O w O' w'){st:ao}{sv':cm}{us':bo}(f:w'.heap[mb]?=some (.cells (yG en aC m.paid m.aO k n a s aa al ac ta tl tc na nl nc sv' fv) 214))
 (hstk:sU B O' w' st.reverse sv' us') (hnd:sv'.ownBlock=sv.ownBlock\/sv'.ownBlock=none\/∃g,sv'.ownBlock=some g/\w.heap.size<=g) (hO:∀g,O g->sv.ownBlock≠some g->O' g) (hk:∀g,O g->g≠mb->sv.ownBlock≠some g->w'.heap[g]?=w.heap[g]?) (hcells:∀b,O' b->∃cs e,w'.heap[b]?=some (.cells cs e)) :
 bU B O' w' mb en aC { m with st:=st } k n a s aa al ac ta tl tc na nl nc sv' fv us' fs:=by
 have j:∀g,fv.ownBlock=some g->g≠mb/\sv.ownBlock≠some g:=λg c=>by
  have v:=h.own;rcases v.2 with⟨e,_⟩|⟨A,q,r,e,_,i,_⟩
  .rw[e]at c;cases c
  .rw[e]at c;cases c;refine⟨dC i h.blk ot,λt=>?_⟩;have:=aD h.jL.own i ot;exact this t.symm
 have hK:∀g∈keptBs m.fr.reverse fs,g≠mb/\sv.ownBlock≠some g:=λg c=>by have⟨_,cs,i⟩:=h.sZ.mine g c;refine⟨dC i h.blk ot,λe=>?_⟩;have:=qe0.1 h.nodup;exact this.2.2 g (by simp[e]) g c rfl
 refine⟨f,l.lies h.said,hstk,iT h.own λg d=>hk g (h.mine.2 g d) (j g d).1 (j g d).2,h.sZ.kept l λg d=>⟨hO g (h.sZ.mine g d).1 (hK g d).2,hk g (h.sZ.mine g d).1 (hK g d).1 (hK g d).2⟩,?_,⟨hO _ h.mine.1 (λe=>aD h.jL.own h.blk ot e.symm),λg c=>hO _ (h.mine.2 g c) (j g c).2⟩,λb u=>?_,hcells,h.num⟩
 .rcases hnd with e|e|⟨g,e,c⟩
  .rw[e];exact h.nodup
  .rw[e];exact (qe0.1 h.nodup).2.1
  .rw[e];refine qe0.2 ⟨oe,(qe0.1 h.nodup).2.1,λx p y z=>?_⟩;simp at p;subst p;have:=h.high y (h.sZ.mine y z).1;omega
 .rcases l.new b u with o|o
  .exact h.low b o
  .have:=h.low _ h.mine.1;have:=h.high _ h.mine.1;omega
def iM{w:cg}{b:Nat}{T:TypeId}{c d:Int}(h:w.heap[b]?=some (.cells (yG en aC c d k n a s aa al ac ta tl tc na nl nc sv fv) T)) :
 w.cell? ⟨b,0,none⟩=some (.i en.self)/\w.cell? ⟨b,1,none⟩=some (.i en.sender)/\w.cell? ⟨b,2,none⟩=some (.i en.amount)/\w.cell? ⟨b,3,none⟩=some (.i en.balance)/\w.cell? ⟨b,4,none⟩=some (.i aC)/\w.cell? ⟨b,5,none⟩=some (.i c)/\w.cell? ⟨b,6,none⟩=some (.i d) /\
 w.cell? ⟨b,14,none⟩=some sv/\w.cell? ⟨b,15,none⟩=some fv/\∀o,w.frozen? ⟨b,o,none⟩=false:=by
 simp[World.cell?,World.frozen?,h,yG]
def nG{w:cg}{b:Nat}{T:TypeId}{c d:Int}(h:w.heap[b]?=some (.cells (yG en aC c d k n a s aa al ac ta tl tc na nl nc sv fv) T))(v:cm) :
 (w.setCell ⟨b,14,none⟩ v).heap[b]?=some (.cells (yG en aC c d k n a s aa al ac ta tl tc na nl nc v fv) T)/\(w.setCell ⟨b,15,none⟩ v).heap[b]?=some (.cells (yG en aC c d k n a s aa al ac ta tl tc na nl nc sv v) T) /\
 (∀q:Int,(w.setCell ⟨b,5,none⟩ (.i q)).heap[b]?=some (.cells (yG en aC q d k n a s aa al ac ta tl tc na nl nc sv fv) T))/\(∀q:Int,(w.setCell ⟨b,6,none⟩ (.i q)).heap[b]?=some (.cells (yG en aC c q k n a s aa al ac ta tl tc na nl nc sv fv) T)):=by
 unfold yG at h|-;simp[World.setCell,ja2,h]
end
def qW (w:cg) (g:Nat) (y0 y1 y2 y3 y4 y5 y6:cm):cg:=((((((w.setCell ⟨g,0,none⟩ y0).setCell ⟨g,1,none⟩ y1).setCell ⟨g,2,none⟩ y2).setCell ⟨g,3,none⟩ y3).setCell ⟨g,4,none⟩ y4).setCell ⟨g,5,none⟩ y5).setCell ⟨g,6,none⟩ y6
def wN{w:cg}{g:Nat}{T:TypeId}{x0 j k l m n o:cm}(h:w.heap[g]?=some (.cells #[x0,j,k,l,m,n,o] T (0,0)))(a b c d e f i:cm) :
 (qW w g a b c d e f i).heap[g]?=some (.cells #[a,b,c,d,e,f,i] T (0,0)):=by
 simp[qW,World.setCell,ja2,h]
def zy(w:cg)(g:Nat)(a b c d e f h:cm):cq w (qW w g a b c d e f h) (some g) :=
 aX (aX (aX (aX (aX (aX (aX (au _ _) _ _ _) _ _ _) _ _ _) _ _ _) _ _ _) _ _ _) _ _ _
def qD{w:cg}{g:Nat}{T:TypeId}{x0 a b c d e f:cm}(h:w.heap[g]?=some (.cells #[x0,a,b,c,d,e,f] T (0,0))):∀o,w.frozen? ⟨g,o,none⟩=false:=by intro o;simp[World.frozen?,h]
set_option maxHeartbeats 100000000
section
variable {B:Nat}{O:br}{w:cg}{mb:Nat}{en:En}{aC:Int}{m:Ma}
def bU.paid{O:br}{m:Ma}{k n a:Int}{s:bp}{v:bj}{al ac:Nat}{ta:bj}{tl tc:Nat}{na:bj}{x nc:Nat}{c p:cm}{us o:bo}(h:bU B O w mb en aC m k n a s v al ac ta tl tc na x nc c p us o)(q:Int)(u:bD q) :
 bU B O (w.setCell ⟨mb,5,none⟩ (.i q)) mb en aC { m with paid:=q } k n a s v al ac ta tl tc na x nc c p us o:=by
 have j:cq w (w.setCell ⟨mb,5,none⟩ (.i q)) (some mb):=aX (au _ _) _ _ _;have r:dB O w O (w.setCell ⟨mb,5,none⟩ (.i q)):=dB.ofRow j (λg e=>by cases e;exact h.mine.1);have f:∀g,O g->g≠mb->(w.setCell ⟨mb,5,none⟩ (.i q)).heap[g]?=w.heap[g]?:=λg d t=>j.block g (h.high g d) (by simpa using t);have y:∀g,c.ownBlock=some g->g≠mb:=λg e l=>aD h.jL.own h.blk ot (by rw[e,l]);have z:∀g,p.ownBlock=some g->g≠mb:=λg e l=>aD h.own h.blk ot (by rw[e,l]);have hK:∀g∈keptBs m.fr.reverse o,g≠mb:=λg j=>by have⟨_,cs,u⟩:=h.sZ.mine g j;exact dC u h.blk ot
 refine⟨(nG h.blk c).2.2.1 q,r.lies h.said,h.jL.kept r λg e=>⟨h.jL.mine g e,f g (h.jL.mine g e) (y g e)⟩,iT h.own λg e=>f g (h.mine.2 g e) (z g e),h.sZ.kept r λg e=>⟨(h.sZ.mine g e).1,f g (h.sZ.mine g e).1 (hK g e)⟩,h.nodup,h.mine,h.low,λb d=>?_,⟨u,h.num.2⟩⟩
 by_cases e:b=mb
 .subst e;exact⟨_,_,(nG h.blk c).2.2.1 q⟩
 .rw[f b d e];exact h.cells b d
def jK (B:Nat) (O:br) (w:cg) (mb:Nat) (en:En) (aC:Int) (o:Out) (e:Ending) (w':cg):Prop:=∃O',dB O w O' w'/\match o with
 | .go m=>e =.returned (.i 0)/\dm B O' w' mb en aC m
 | .no er m=>er≠0/\e =.returned (.i er)/\∃m',m'.paid=m.paid/\m'.said=m.said/\dm B O' w' mb en aC m'
 | .stuck=>False
def dm.grow{w':cg}(h:dm B O w mb en aC m)(b:cq w w' none):dm B O w' mb en aC m:=by have⟨k,n,a,s,aa,al,ac,ta,tl,tc,na,nl,nc,sv,fv,us,fs,h⟩:=h;exact⟨k,n,a,s,aa,al,ac,ta,tl,tc,na,nl,nc,sv,fv,us,fs,h.grow b⟩
def dm.turn{w':cg}{row:Option Nat}(h:dm B O w mb en aC m)(b:cq w w' row)(c:∀r,row=some r->¬dP w r/\¬O r):dm B O w' mb en aC m:=by have⟨k,n,a,s,aa,al,ac,ta,tl,tc,na,nl,nc,sv,fv,us,fs,h⟩:=h;exact⟨k,n,a,s,aa,al,ac,ta,tl,tc,na,nl,nc,sv,fv,us,fs,h.turn b c⟩
def dm.cells(h:dm B O w mb en aC m):∀b,O b->∃cs e,w.heap[b]?=some (.cells cs e):=by have⟨k,n,a,s,aa,al,ac,ta,tl,tc,na,nl,nc,sv,fv,us,fs,h⟩:=h;exact h.cells
def dm.no{r:Nat}(h:dm B O w mb en aC m)(b:∃o:Obj,w.heap[r]?=some o/\o.isCells=false):¬dP w r/\¬O r:=by refine⟨DZ b,λc=>?_⟩;have⟨cs,e,f⟩:=h.cells r c;have⟨o,a,d⟩:=b;rw[f]at a;cases a;cases d
def dm.high(h:dm B O w mb en aC m):∀b,O b->b<w.heap.size:=by have⟨k,n,a,s,aa,al,ac,ta,tl,tc,na,nl,nc,sv,fv,us,fs,h⟩:=h;exact h.high
def Ff(h:dm B O w mb en aC m):Calls prog 194 #[.po mb] w (jK B O w mb en aC (uH aC m .go)):=by
 have h0:=jh h;have⟨k,n,a,s,aa,al,ac,ta,tl,tc,na,nl,nc,sv,fv,us,fs,h⟩:=h;have j:=h.num;unfold bD at j;have HM:=jh h;have K:=λ(w':cg) (h:cq w w' none)=>iM (dh HM.blk h);have d:cq w w none:=au _ _;have b:=jh (aK d);clear h
 by_cases f:m.paid ≥ aC
 .have c:Hid (uH aC m .go =.no 12 m):=by show _=_;unfold uH;rw[if_pos f]
  go_enter func194,ntmps194;go_wp2_with fail;go_region_held3 (λw'=>cq w w' none) (first|with_reducible assumption|with_reducible exact aK oR) (fail);go_wp2;go_ret;rw[c.out];exact⟨O,dB.grow b.out,ot,rfl,m,rfl,rfl,h0.out.grow b.out⟩
 .have l:wrap64 (m.paid+1)=m.paid+1:=by unfold wrap64;omega
  have c:Hid (uH aC m .go =.go { m with paid:=m.paid+1 }):=by show _=_;unfold uH;rw[if_neg f]
  go_enter func194,ntmps194;go_wp2_with fail;go_region_held3 (λw'=>cq w w' none) (first|with_reducible assumption|with_reducible exact aK oR) (fail);go_wp2;go_ret;rw[c.out];have i:=(HM.out.grow b.out).paid (m.paid+1) vm;exact⟨O,(dB.grow b.out).trans (dB.ofRow (aX (au _ _) _ _ _) (λg e=>by cases e;exact HM.out.mine.1)),rfl,_,_,_,_,_,_,_,_,_,_,_,_,_,_,_,_,_,i⟩
def kc{w w':cg}{r:Option Nat}{b o:Nat}{v:cm}(h:w.cell? ⟨b,o,none⟩=some v)(a:cq w w' r)(c:some b≠r):w'.cell? ⟨b,o,none⟩=some v:=(ke (a.block b (qb7 w _ h) c)).trans h
def kb{w w':cg}{r:Option Nat}{b:Nat}{o:Obj}(h:w.heap[b]?=some o)(a:cq w w' r)(c:some b≠r):w'.heap[b]?=some o:=(a.block b (kj.1 h).1 c).trans h
def C7 (w:cg) (g o:Nat) (k n a:Int) (s:bp) (aa:bj) (al ac:Nat) (ta:bj) (tl tc:Nat) (na:bj) (nl nc:Nat):Prop :=
 w.cell? ⟨g,o,none⟩=some (.i k)/\w.cell? ⟨g,o+1,none⟩=some (.i n)/\w.cell? ⟨g,o+2,none⟩=some (.i a)/\w.cell? ⟨g,o+3,none⟩=some (.string s)/\w.cell? ⟨g,o+4,none⟩=some (.slice aa al ac)/\w.cell? ⟨g,o+5,none⟩=some (.slice ta tl tc)/\w.cell? ⟨g,o+6,none⟩=some (.slice na nl nc)
def C7.keep{w w':cg}{r:Option Nat}{g o:Nat}{k n a:Int}{s:bp}{d:bj}{al e:Nat}{ta:bj}{tl tc:Nat}{na:bj}{f nc:Nat}(h:C7 w g o k n a s d al e ta tl tc na f nc)(b:cq w w' r)(c:some g≠r):C7 w' g o k n a s d al e ta tl tc na f nc :=
 ⟨kc h.1 b c,kc h.2.1 b c,kc h.2.2.1 b c,kc h.2.2.2.1 b c,kc h.2.2.2.2.1 b c,kc h.2.2.2.2.2.1 b c,kc h.2.2.2.2.2.2 b c⟩
def Xe{P:Program}{e:Func}{Q:Ending->cg->Prop}{A:Act}{w:cg}{R:Nat}{T:TypeId}{x0 f g h j l m:cm}{k n a:Int}{s:bp}{b:bj}{al c:Nat}{ta:bj}{tl tc:Nat}{na:bj}{d nc:Nat}
 (hres:∀w':cg,w'.cell? ⟨R,0,none⟩=some (.i k)/\w'.cell? ⟨R,1,none⟩=some (.i n)/\w'.cell? ⟨R,2,none⟩=some (.i a)/\w'.cell? ⟨R,3,none⟩=some (.string s)/\w'.cell? ⟨R,4,none⟩=some (.slice b al c)/\w'.cell? ⟨R,5,none⟩=some (.slice ta tl tc)/\w'.cell? ⟨R,6,none⟩=some (.slice na d nc)->(results e A.tmps).run P w' =.ok (bg k n a s b al c ta tl tc na d nc) w')
 (hd:A.defers=[]) (hb:w.heap[R]?=some (.cells #[x0,f,g,h,j,l,m] T (0,0))) (hQ:∀w',cq w w' (some R)->Q (.returned (bg k n a s b al c ta tl tc na d nc)) w') :
 bodyPost P e Q .ret A (qW w R (.i k) (.i n) (.i a) (.string s) (.slice b al c) (.slice ta tl tc) (.slice na d nc)) :=
 jb3 (hres _ (cO (wN hb _ _ _ _ _ _ _))) hd (hQ _ (zy _ _ _ _ _ _ _ _ _))
def DT{α:Type}{l:List α}{n:Nat}(h:l.length=n+1):∃r x,l=r++[x]/\r.length=n:=by refine⟨l.dropLast,l.getLast (by intro e;subst e;simp at h),(List.dropLast_concat_getLast _).symm,by simp[h]⟩
def rY{us:bo}{n:Nat}(h:∀u∈us,(nodeCells u).length=n):(flat us).length=us.length*n:=by
 induction us with
 | nil=>simp[flat]
 | cons u us a=>simp only[flat,qd5,jx,js]at a|-;rw[a λv b=>h v (by simp[b]),h u oe,qg3];omega
def sU.top{l:ao}{x:Va}{v:cm}{us:bo}(h:sU B O w (l++[x]) v us):∃g cap us' k n a s aa al ac ta tl tc na nl nc,v =.o g (l.length+1) cap/\(l.length+1<=cap/\cap<=maxLen)/\us=us'++[bg k n a s aa al ac ta tl tc na nl nc]/\aA (λb=>¬O b) w x (bg k n a s aa al ac ta tl tc na nl nc) /\
 C7 w g (l.length*7) k n a s aa al ac ta tl tc na nl nc/\sU B O w l (.o g l.length cap) us':=by
 have r:=h.len;simp only[jx,js,qa1]at r;obtain⟨us',u,rfl,c⟩:=DT r;have z:=h.lies l.length x u oe (by rw[<-c];simp);have f:=h.own;obtain⟨k,n,a,s,aa,al,ac,ta,tl,tc,na,nl,nc,rfl⟩:=z.bg;have C:∀u∈us',(nodeCells u).length=7:=λu E=>by
  obtain⟨i,q,rfl⟩:=qc5 E;have o:i<l.length:=od
  have⟨k,n,a,s,aa,al,ac,ta,tl,tc,na,nl,nc,e⟩:=(h.lies i l[i] us'[i] (by rw[zd o,qu o]) (by rw[zd q,qu q])).bg;rw[e];rfl
 have m:=rY C;unfold dF at f;rw[bV,jx,qe7,c]at f;obtain⟨g,cap,rfl,_⟩:=BO f (by rintro rfl;have:=f.2;simp at this);have D:=BH f;refine⟨g,cap,us',k,n,a,s,aa,al,ac,ta,tl,tc,na,nl,nc,rfl,D,rfl,z,?_,⟨?_,c,λi y v p t=>?_,λA e=>h.mine A e⟩⟩
 .have d:∀j y,(nodeCells (bg k n a s aa al ac ta tl tc na nl nc))[j]?=some y->w.cell? ⟨g,l.length*7+j,none⟩=some y:=λj y p=>iJ f (by rw[m,c]) j y (by simpa[flat]using p);exact⟨d 0 _ rfl,d 1 _ rfl,d 2 _ rfl,d 3 _ rfl,d 4 _ rfl,d 5 _ rfl,d 6 _ rfl⟩
 .unfold dF;rw[c];exact uF f (by rw[m,c])
 .exact h.lies i y v (by rw[zd (qT.1 p).1];exact p) (by rw[zd (qT.1 t).1];exact t)
def Yi (B:Nat) (O:br) (w:cg) (mb:Nat) (en:En) (aC:Int) (x:Va) (m:Ma) (e:Ending) (w':cg):Prop:=∃v,e =.returned v/\aA (λb=>¬O b) w' x v/\dB O w O w'/\dm B O w' mb en aC m
def Yh (B:Nat) (O:br) (w:cg) (x:Va) (mb:Nat) (en:En) (aC:Int) (m:Ma) (k n a:Int) (s:bp) (aa:bj) (al ac:Nat) (ta:bj) (tl tc:Nat) (na:bj) (nl nc:Nat) (fv:cm) (fs:bo) (e:Ending) (w':cg):Prop:=∃v,e =.returned v/\aA (λb=>¬O b) w' x v/\dB O w O w'/\∃sv us,bU B O w' mb en aC m k n a s aa al ac ta tl tc na nl nc sv fv us fs
def Yj (B:Nat) (O:br) (w:cg) (x:Va) (mb:Nat) (en:En) (aC:Int) (m:Ma) (L:Nat) (st:ao) (k n a:Int) (s:bp) (aa:bj) (al ac:Nat) (ta:bj) (tl tc:Nat) (na:bj) (nl nc:Nat) (fv:cm) (fs:bo) (e:Ending) (w':cg):Prop:=∃v,e =.returned v/\aA (λb=>¬O b) w' x v/\dB O w O w'/\∃g cap us,(L+1<=cap/\cap<=maxLen)/\bU B O w' mb en aC { m with st:=st } k n a s aa al ac ta tl tc na nl nc (.o g L cap) fv us fs
def Cv{x:Va}{st:ao}{k n a:Int}{s:bp}{J:bj}{al ac:Nat}{ta:bj}{tl tc:Nat}{na:bj}{T nc:Nat}{sv N:cm}{us M:bo}(h:bU B O w mb en aC m k n a s J al ac ta tl tc na T nc sv N us M)(R:m.st=x::st):Calls prog 196 #[.po mb] w (Yj B O w x mb en aC m st.length st k n a s J al ac ta tl tc na T nc N M):=by
 have u:=h.jL;rw[R,qd1]at u;obtain⟨g,y,ar,k1,n1,a1,s1,V,X,W,an,fE,aq,ah,ak,aj,rfl,c,rfl,S,d,f⟩:=u.top;rw[qb3]at c d f h;have A:=jh c;generalize st.length=L at *;have ae:wrap64 (L:Int)=L:=by unfold maxLen at c;unfold wrap64;omega
 have⟨c,_⟩:=c;have p:=Lf.gb (w:=w) (.cells #[.i 0,.i 0,.i 0,.string ⟨#[]⟩,.n0,.n0,.n0] 29);have⟨HM,t,HX,I⟩:=we (h.grow p) h S f;have ad:=h.high _ h.mine.1;have ab:g<w.heap.size:=h.high g (h.jL.mine g rfl);have⟨U,D,C⟩:=JT (d.keep p oe) (xF w (.cells #[.i 0,.i 0,.i 0,.string ⟨#[]⟩,.n0,.n0,.n0] 29)) p;clear h u S f d R p;go_enter func196,ntmps196
 go_upto_region 1 with (fail)
 generalize w.alloc _=j at *;have K:=λ(w':cg) (h:cq j w' (some w.heap.size))=>And.intro (iM (kb HM.blk h ov)) (U.keep h ov);unfold C7 at K;have Z:cq j j (some w.heap.size):=au _ _;have hA:=λ(w':cg) (o:Obj) (h:cq j w' (some w.heap.size))=>bZ h (ma (Lf.gb o));have K2:=λ(w':cg) (h:cq j w' (some mb))=>And.intro (cO (kb D h ov)) (qD (kb D h ov));have E:cq j j (some mb):=au _ _;have hA2:=λ(w':cg) (o:Obj) (h:cq j w' (some mb))=>bZ h (ma (Lf.gb o));have F:=λ(w':cg) (o:Nat) (v:cm) (h:cq j w' (some mb))=>aX h o none v;go_wp2_with fail;refine Xe (λw' h=>by simp[results,results196,go_sem,h,bg]) rfl (x0:=.i 0) (kb D (F _ _ _ (hA2 _ _ E)) ov) λw' Q=>?_;have l:cq w w' (some mb):=aG (bZ (ma (Lf.Zt C (Lf.gb _))) (aX (au _ _) _ _ _)) Q (jj _);have z:=dB.ofRow (O:=O) l (λq e=>by cases e;exact t.mine.1);have r:=kb (nG (HM.grow (Lf.gb _)).blk (.o g L y)).1 Q ov;refine⟨_,rfl,z.lies HX,z,g,y,_,A,t.stack z r (I.kept z λq e=>⟨I.mine q e,l.block q (by cases e;omega) (λY=>?_)⟩) (.inl rfl) (λq H _=>H) (λq H G _=>l.block q (t.high q H) (by simpa using G)) (λb P=>?_)⟩
 .cases Y;exact aD t.jL.own t.blk ot e.symm
 .by_cases e:b=mb
  .subst e;exact⟨_,_,r⟩
  .rw[l.block b (t.out.high b P) (by simpa using e)];exact t.cells b P
def yA{x:Va}{st:ao}{k n a:Int}{s:bp}{b:bj}{al ac:Nat}{ta:bj}{tl tc:Nat}{na:bj}{f nc:Nat}{r d:cm}{us c:bo}(h:bU B O w mb en aC m k n a s b al ac ta tl tc na f nc r d us c)(q:m.st=x::st):Calls prog 196 #[.po mb] w (Yh B O w x mb en aC { m with st:=st } k n a s b al ac ta tl tc na f nc d c):=by refine (Cv h q).mono ?_;rintro e w' ⟨v,j,l,o,g,i,us,_,p⟩;exact⟨v,j,l,o,_,_,p⟩
def yB{x:Va}{st:ao}(h:dm B O w mb en aC m)(g:m.st=x::st):Calls prog 196 #[.po mb] w (Yi B O w mb en aC x { m with st:=st }):=by have⟨k,n,a,s,aa,al,ac,ta,tl,tc,na,nl,nc,sv,fv,us,fs,h⟩:=h;refine (yA h g).mono ?_;rintro e w' ⟨v,b,c,d,sv,us,f⟩;exact⟨v,b,c,d,_,_,_,_,_,_,_,_,_,_,_,_,_,_,_,_,_,f⟩
def Src (O:br) (w:cg) (l:ao) (xv:cm):Prop:=∃us:bo,gZ w xv us.length (flat us)/\us.length=l.length/\∀(i:Nat) (x:Va) (u:cm),l[i]?=some x->us[i]?=some u->aA (λb=>¬O b) w x u
def Src.row{l:ao}{a:bj}{V:bt}{c:Nat}(h:aT (λb=>¬O b) w l a V):Src O w l (.slice a l.length c):=by
 refine⟨(List.range l.length).map V,?_,oe,λi x u m d=>?_⟩
 .have p:∀u∈(List.range l.length).map V,(nodeCells u).length=7:=λu d=>by
   simp only[kB,List.mem_range]at d;obtain⟨i,f,rfl⟩:=d;have⟨k,n,a,s,aa,al,ac,ta,tl,tc,na,nl,nc,e⟩:=(h.2.2 i f).bg;rw[e];rfl
  have g:=rY p;simp only[qc3,List.length_range]at g|-
  cases a with
  | none =>
   left;have h0:l.length=0:=by
    cases H:l.length with
    | zero=>rfl
    | succ q=>have⟨b,o,e,_⟩:=h.2.1 0 od;cases e
   exact⟨c,by rw[h0],h0,jz (by rw[g,h0])⟩
  | some t =>
   right;refine⟨t,c,rfl,λj u d=>?_⟩;have G:j<l.length*7:=by have:=(qT.1 d).1;omega
   obtain⟨i,r,y,rfl⟩:∃i r,r<7/\j=i*7+r:=⟨j / 7,j % 7,Nat.mod_lt _ od,od⟩;have f:i<l.length:=od
   have⟨b,o,e,_,k,n,a,s,aa,al,ac,ta,tl,tc,na,nl,nc,v,z,A,B,C,D,E,F⟩:=h.2.1 i f;cases e;rw[flatV_get _ p i r (V i) (by simp[f]) y,v]at d;rw[gI,<-qg2];rcases (show r=0\/r=1\/r=2\/r=3\/r=4\/r=5\/r=6 by omega)with rfl|rfl|rfl|rfl|rfl|rfl|rfl<;>(simp only[bg,nodeCells,kO,ub,qq]at d;subst d;assumption)
 .have f:=(qT.1 m).1;simp[f]at d;subst d;have:=h.2.2 i f;rw[qu f]at m;simp only[qq]at m;rw[<-m];exact this
def Src.grow{w':cg}{l:ao}{xv:cm}(h:Src O w l xv)(d:cq w w' none):Src O w' l xv:=by
 have⟨us,a,g,k⟩:=h;refine⟨us,?_,g,λi x u m b=>(dB.grow (O:=O) d).lies (k i x u m b)⟩;rcases a with a|⟨f,c,e,a⟩
 .exact .inl a
 .exact .inr ⟨f,c,e,λj u b=>by have:=a j u b;exact (ke (d.block _ (qb7 w _ this) oe)).trans this⟩
def K8 (B:Nat) (O:br) (w:cg) (mb:Nat) (en:En) (aC:Int) (m:Ma) (e:Ending) (w':cg):Prop:=e =.returned (.tuple #[])/\∃O',dB O w O' w'/\dm B O' w' mb en aC m
def lL{us:bo}(h:∀u∈us,∃k n a s aa al ac ta tl tc na nl nc,u=bg k n a s aa al ac ta tl tc na nl nc):(flat us).length=us.length*7/\∀y∈flat us,y.oneCell':=by
 refine⟨rY λu c=>?_,λy b=>?_⟩
 .have⟨k,n,a,s,aa,al,ac,ta,tl,tc,na,nl,nc,e⟩:=h u c;rw[e];rfl
 .simp only[flat,qb2]at b;have⟨u,c,b⟩:=b;have⟨k,n,a,s,aa,al,ac,ta,tl,tc,na,nl,nc,e⟩:=h u c;rw[e]at b;simp[bg,nodeCells]at b;rcases b with rfl|rfl|rfl|rfl|rfl|rfl|rfl<;>rfl
def mO{l:ao}{us:bo}(e:us.length=l.length)(h:∀(i:Nat) (x:Va) (u:cm),l[i]?=some x->us[i]?=some u->aA (λb=>¬O b) w x u):∀u∈us,∃k n a s aa al ac ta tl tc na nl nc,u=bg k n a s aa al ac ta tl tc na nl nc:=λu d=>by obtain⟨i,c,rfl⟩:=qc5 d;exact (h i l[i] us[i] (qu od) (qu c)).bg
def WU{c:Array Oper}{b:List Oper}{o:Oper}{a:Act}{Q:Exit->Act->cg->Prop}(g:o.guard=none)(s x:Operand)(C:o.op =.call { callee:=.builtin .append,args:=#[s,x],argTypes:=#[27,27] })
 {v xv:cm} (hs:a.eval s=v) (hx:a.eval x=xv) {l0 l:ao} {us:bo} (h:sU B O w l0 v us) (hsrc:Src O w l xv) (hB:B<=w.heap.size) (hlen:l0.length+l.length<=100000000)
 (hk:∀v' us' w',sU B (qx O v v') w' (l0++l) v' us'->Gr w v w' v'->dB O w (qx O v v') w'->wpList prog c Q b (a.put o.dst v') w'):wpList prog c Q (o::b) a w:=by
 have⟨k,A,m,n⟩:=hsrc;have p:=lL (mO m n);refine ed g s x 27 C B 29 underlying27 mr rfl ot v us.length (flat us) hs h.own xv k.length (flat k) hx p.1 A p.2 (by have:=h.len;unfold maxLen;omega) (by have:=h.len;omega) hB λv' w' j r _=>?_;have z:=dB.gr r h.mine;refine hk v' (us++k) w' ⟨by unfold dF;rw[jx,bV];exact j,by simp[h.len,m],λi y u f d=>z.lies ?_,λq e=>.inr e⟩ r z
 by_cases t:i<l0.length
 .rw[zd t]at f;rw[zd (by rw[h.len];exact t)]at d;exact h.lies i y u f d
 .rw[xf od]at f;rw[xf (by rw[h.len];omega),h.len]at d;exact n _ y u f d
def nX{e:TypeId}{size n:Nat}{v:cm}{xs:bo}(h:w.ownsRow B e size v n xs):∃a c,v =.slice a n c:=by
 rcases h.2 with⟨rfl,rfl⟩|⟨g,b,d,rfl,_⟩
 .exact⟨_,_,rfl⟩
 .exact⟨_,_,rfl⟩
def Yf (B:Nat) (O:br) (w:cg) (mb:Nat) (sv:cm) (l:ao) (e:Ending) (w':cg):Prop:=e =.returned (.tuple #[])/\∃v' us' w1,sU B (qx O sv v') w1 l v' us'/\Gr w sv w1 v'/\dB O w (qx O sv v') w1/\w'=w1.setCell ⟨mb,14,none⟩ v'
def G9{l p:ao}{xv:cm}{g x:Int}{k n a:Int}{s:bp}{y:bj}{al z:Nat}{ta:bj}{tl tc:Nat}{na:bj}{D nc:Nat}{i A:cm}{us:bo}(hb:w.heap[mb]?=some (.cells (yG en aC g x k n a s y al z ta tl tc na D nc i A) 214))(t:sU B O w p i us)(c:Src O w l xv)(r:B<=w.heap.size)(b:p.length+l.length<=100000000):Calls prog 193 #[.po mb,xv] w (Yf B O w mb i (p++l)):=by have HM:=jh hb;have q:=jh t;have K:=λ(w':cg) (h:cq w w' none)=>iM (dh HM h);have C:cq w w none:=au _ _;have⟨u,HL,HB⟩:=JT c b r;clear hb t c b r;go_enter func193,ntmps193;go_wp2_with (at_builtin;refine WU (v:=i) (xv:=xv) rfl _ _ rfl rfl rfl q u HB HL ?_;intro H E w' e d f;obtain⟨F,G,rfl⟩:=nX e.own;have o:=jh e;have m:=jh d;have j:=jh f;have I:=iM (kb HM d.1 (aD q.own HM ot));clear e d f);refine jb3 (v:=.tuple #[]) (by simp[results,results193,go_sem]) rfl ?_;exact⟨rfl,_,_,_,o,m,j,rfl⟩
def Yg (B:Nat) (O:br) (w:cg) (mb:Nat) (en:En) (aC:Int) (m:Ma) (k n a:Int) (s:bp) (aa:bj) (al ac:Nat) (ta:bj) (tl tc:Nat) (na:bj) (nl nc:Nat) (fv:cm) (fs:bo) (e:Ending) (w':cg):Prop:=e =.returned (.tuple #[])/\∃O',dB O w O' w'/\∃sv us,bU B O' w' mb en aC m k n a s aa al ac ta tl tc na nl nc sv fv us fs
def bU.Fv{st:ao}{k n a:Int}{s:bp}{z:bj}{al ac:Nat}{ta:bj}{tl tc:Nat}{na:bj}{F nc:Nat}{j C v':cm}{us A us':bo}{w':cg}(c:bU B O w mb en aC m k n a s z al ac ta tl tc na F nc j C us A)(x:sU B (qx O j v') w' st.reverse v' us')(p:Gr w j w' v')(hF:dB O w (qx O j v') w') :
 dB O w (qx O j v') (w'.setCell ⟨mb,14,none⟩ v')/\bU B (qx O j v') (w'.setCell ⟨mb,14,none⟩ v') mb en aC { m with st:=st } k n a s z al ac ta tl tc na F nc v' C us' A:=by
 have d:cq w' (w'.setCell ⟨mb,14,none⟩ v') (some mb):=aX (au _ _) _ _ _;have u:dB (qx O j v') w' (qx O j v') (w'.setCell ⟨mb,14,none⟩ v'):=dB.ofRow d (λq e=>by cases e;exact .inl ⟨c.mine.1,λe=>aD c.jL.own c.blk ot e.symm⟩);have D:=hF.trans u;have h:=(nG (kb c.blk p.1 (aD c.jL.own c.blk ot)) v').1;have y:∀q,v'.ownBlock=some q->q≠mb:=λq e r=>by
  subst r;rcases p.2 with o|⟨g,o,E⟩
  .exact aD c.jL.own c.blk ot (by rw[<-o,e])
  .rw[e]at o;cases o;have:=c.high _ c.mine.1;omega
 refine⟨D,c.stack D h (us':=us') ?_ ?_ (λq i l=>.inl ⟨i,l⟩) (λq i l v=>(d.block q (kh (c.high q i) p.1.size) (by simpa using l)).trans (p.1.block q (c.high q i) (λe=>v e.symm))) (λb f=>?_)⟩
 .exact x.kept u λq e=>⟨.inr e,d.block q (qb5 x.own q e).2 (by simpa using y q e)⟩
 .rcases p.2 with e|⟨g,e,E⟩
  .exact .inl e
  .exact .inr (.inr ⟨g,e,E⟩)
 .by_cases e:b=mb
  .subst e;exact⟨_,_,h⟩
  .have t:∃cs e,w'.heap[b]?=some (.cells cs e):=by
    rcases f with f|f
    .rw[p.1.block b (c.high b f.1) (λo=>f.2 o.symm)];exact c.cells b f.1
    .rcases x.own.2 with⟨r,_⟩|⟨g,G,H,r,_,i,_⟩
     .rw[r]at f;cases f
     .rw[r]at f;cases f;exact⟨_,_,i⟩
   rw[d.block b (by have⟨cs,q,i⟩:=t;exact (kj.1 i).1) (by simpa using e)];exact t
def BG{l:ao}{xv:cm}{k n a:Int}{s:bp}{i:bj}{al ac:Nat}{ta:bj}{tl tc:Nat}{na:bj}{p nc:Nat}{q o:cm}{us j:bo}(h:bU B O w mb en aC m k n a s i al ac ta tl tc na p nc q o us j)(c:Src O w l xv)(b:m.st.length+l.length<=100000000):Calls prog 193 #[.po mb,xv] w (Yg B O w mb en aC { m with st:=l.reverse++m.st } k n a s i al ac ta tl tc na p nc o j):=by refine (G9 h.blk h.jL c (by have:=h.low _ h.mine.1;have:=h.high _ h.mine.1;omega) (by rw[qb3];exact b)).mono ?_;rintro e u ⟨rfl,t,r,w',g,f,d,rfl⟩;have:=h.Fv (st:=l.reverse++m.st) (by rw[qg5,jf6];exact g) f d;exact⟨rfl,_,this.1,_,_,this.2⟩
def Ha{l:ao}{xv:cm}(h:dm B O w mb en aC m)(c:Src O w l xv)(b:m.st.length+l.length<=100000000):Calls prog 193 #[.po mb,xv] w (K8 B O w mb en aC { m with st:=l.reverse++m.st }):=by have⟨k,n,a,s,aa,al,ac,ta,tl,tc,na,nl,nc,sv,fv,us,fs,h⟩:=h;refine (BG h c b).mono ?_;rintro e w' ⟨d,O',f,sv,us,g⟩;exact⟨d,O',f,_,_,_,_,_,_,_,_,_,_,_,_,_,_,_,_,_,g⟩
end
open Go.ChangeShapes Go.WideShapes Go.ChangeAt Go.RowKit Go.Shelf
set_option maxHeartbeats 2000000
attribute [local go_sem] Oper.semAt_some
def YP (Bs b:Nat) (W W':cg):Prop:=∀o,W'.cell? ⟨Bs,o,none⟩=W.cell? ⟨Bs,o,none⟩/\W'.cell? ⟨b,o,none⟩=W.cell? ⟨b,o,none⟩
section
variable {α:Type}{encs:α->Array cm}
def PX(F:Fence)(n:Nat)(h1:F.fn 246)(B:F.round=none)(hn:1<=n)(l u b t cap:Nat)(V:bt)(xs:List α)(O:xs.length<=100000000)(s:∀r (h:r<xs.length),encs xs[r]=#[.i ((xs.length - 1 - r:Nat):Int),V (xs.length - 1 - r)])(J C:List α->cg->Prop)
 (hY:∀pre x W,J pre W->pre.length<xs.length->YieldAt F (n - 1) prog l (encs x) W λe c=>(e =.returned (.bool true)/\J (pre++[x]) c/\YP u b W c)\/(e =.returned (.bool false)/\C (pre++[x]) c))
 (W:cg) (hBs:W.cell? ⟨u,0,none⟩=some (.slice (some ⟨b,t,none⟩) xs.length cap)) (hc:∀j,j<xs.length->AX (λ_=>True) W (some ⟨b,t,none⟩) j (V j)) (h0:J [] W) :
 CallsIn F n prog 246 #[.func (.yield l) #[] #[],.po u] W λe c=>(∃v,e =.returned v)/\((∃ys,ys=xs/\J ys c)\/(∃pre,(∃k,k<=xs.length/\pre=xs.take k)/\C pre c)):=by
 refine callsIn_of_wp func246 rfl h1 ?_ B;simp only[ntmps246,jd6,js,qa1,Nat.reduceAdd,Nat.reduceSub,kb0,ka7,List.push_toArray,List.append_toArray,qe5,qd2];have ad:wrap64 ((xs.length:Int) - 1)=(xs.length:Int) - 1:=by unfold wrap64;omega
 gi_wp2
 gi_loopw [3] (λi wr=>∃k:Nat,k<=xs.length/\i =.i ((xs.length:Int) - 1 - k)/\J (xs.take k) wr/\YP u b W wr) (λi _=>(intOf i+1).toNat)
 case atStart=>exact⟨0,yv _,oe,h0,λ_=>⟨rfl,rfl⟩⟩
 case round =>
  obtain⟨k,hk,rfl,d,a⟩:=hrel;have N:=(a 0).1.trans hBs
  by_cases p:k<xs.length
  .have⟨fn,P,w,D,y,hR⟩:=hY (xs.take k) xs[k] wr d vc;rw[s k p]at y;have⟨bb,oo,eb,_,k1,n1,a1,s1,aa,al,ac,ta,tl,tc,na,nl,nc,Z,E,G,H,I,K,L,M⟩:=hc (xs.length - 1 - k) od;cases eb;rw[Z]at y;unfold bg at y;have Q:=(a _).2.trans E;have R:=(a _).2.trans G;have S:=(a _).2.trans H;have T:=(a _).2.trans I;have U:=(a _).2.trans K;have X:=(a _).2.trans L;have Y:=(a _).2.trans M;have⟨q,hq⟩:∃q:Nat,xs.length - 1 - k=q:=⟨_,rfl⟩;have A:(xs.length:Int) - 1 - k=(q:Int):=by omega
   have ab:q<xs.length:=od
   rw[hq]at y Q R S T U X Y;rw[A];clear E G H I K L M hc s hBs;have ae:wrap64 ((q:Int) - 1)=(q:Int) - 1:=by unfold wrap64;omega
   have g:xs.take (k+1)=xs.take k++[xs[k]]:=by rw[jc1,qu p];rfl
   gi_wp2
   refine hR.mono ?_;rintro e W3 (⟨rfl,z,m⟩|⟨rfl,f⟩)
   .gi_wp2
    go_roundw
    case rel=>exact⟨k+1,od,by congr 1;omega,by rw[g];exact z,λo=>⟨(m o).1.trans (a o).1,(m o).2.trans (a o).2⟩⟩
    case measure=>simp[intOf]
   .gi_wp2
    refine jb3 (results_none rfl _ _ _) rfl ?_;exact⟨⟨_,rfl⟩,.inr ⟨_,⟨k+1,od,g.symm⟩,f⟩⟩
  .obtain rfl:k=xs.length:=by omega
   gi_wp2
   go_end0
   exact⟨⟨_,rfl⟩,.inl ⟨_,rfl,by simpa using d⟩⟩
def aev(F:Fence)(n:Nat)(j:F.fn 246)(d:F.round=none)(l f c:Nat)(a:bj)(J:List α->cg->Prop)(W:cg)(k:W.cell? ⟨f,0,none⟩=some (.slice a 0 c))(h:J [] W) :
 CallsIn F n prog 246 #[.func (.yield l) #[] #[],.po f] W λe g=>(∃v,e =.returned v)/\J [] g:=by
 refine callsIn_of_wp func246 rfl j ?_ d;simp only[ntmps246,jd6,js,qa1,Nat.reduceAdd,Nat.reduceSub,kb0,ka7,List.push_toArray,List.append_toArray,qe5,qd2]
 gi_wp2
 gi_loopw [3] (λi wr=>i =.i (-1)/\J [] wr) (λ_ _=>0)
 case atStart=>exact⟨rfl,h⟩
 case round =>
  obtain⟨rfl,b⟩:=hrel
  gi_wp2
  go_end0
  exact⟨⟨_,rfl⟩,b⟩
def TJ(F:Fence)(n:Nat)(d:F.fn 232)(c:F.round=none)(a:bj)(b cap:Nat)(w:cg) :
 CallsIn F n prog 232 #[.slice a b cap] w λe w'=>e =.returned (.func (.func 246) #[] #[.po (w.heap.size)])/\w'=w.alloc (.cells #[.slice a b cap] 27):=by
 refine callsIn_of_wp func232 rfl d ?_ c;simp only[ntmps232,jd6,js,qa1,Nat.reduceAdd,Nat.reduceSub,kb0,ka7,List.push_toArray,List.append_toArray,qe5,qd2]
 gi_wp2
 go_ret;exact⟨rfl,rfl⟩
def Je(F:Fence)(n:Nat)(y:F.fn 246)(m:F.round=none)(hn:1<=n)(d b c:Nat)(a:bj)(V:bt)(xs:List α)(g:xs.length<=100000000)(u:∀r (h:r<xs.length),encs xs[r]=#[.i ((xs.length - 1 - r:Nat):Int),V (xs.length - 1 - r)])
 (w:cg) (hb:xs≠[]->∀q o,a=some ⟨q,o,none⟩->b=q) (hsz:d<w.heap.size) (hBs:w.cell? ⟨d,0,none⟩=some (.slice a xs.length c)) (hc:∀j,j<xs.length->AX (λ_=>True) w a j (V j)) :
 SeqStopsK F n prog 246 #[.po d] encs (YP d b) (λys=>ys=xs) (λpre=>∃k,k<=xs.length/\pre=xs.take k) xs.length w:=λl J z W hW _ _ A v=>by
 have f:=(hW.cell (p:=⟨d,0,none⟩) hsz).trans hBs
 cases xs with
 | nil=>exact (aev F n y m l d c a J W f v).mono λe C ⟨B,s⟩=>⟨B,.inl ⟨_,rfl,s⟩⟩
 | cons x r =>
  obtain⟨q,o,rfl,_⟩:=hc 0 oe;have:=hb oe q o rfl;subst this;exact PX F n y m hn l d b o c V (x::r) g u J z A W f (λj s=>(hc j s).same λq o _ t=>hW.cell (p:=⟨q,o,none⟩) t) v
end
set_option maxHeartbeats 400000
attribute [local go_sem] Oper.semAt_some
abbrev Item (O:br) (w:cg):={ p:Nat×Va×cm // aA (λb=>¬O b) w p.2.1 p.2.2/\p.2.1.size<=20000000 }
def encI {O:br}{w:cg}(x:Item O w):Array cm:=#[.i (x.1.1:Int),x.1.2.2]
def vQ {O:br}{w:cg}(l:List (Item O w)):ao:=l.map λx=>x.1.2.1
def Ag{α:Type}{n:Nat}{Kp:cg->cg->Prop}{I:List α->cg->Prop}{b:Code->List α->cg->Prop}{xs:List α}{W a:cg}{A:Act}(c:KeepsFrom n W a)(d:Kp W a)(e:I xs a):ownPostG n Kp I b xs W .normal A a:=⟨c,d,e⟩
def OL{O:br}{w:cg}(l:List (Item O w))(x:Item O w):vQ (l++[x])=vQ l++[x.1.2.1]:=by unfold vQ;rw[qa0];rfl
def dB.zB{O c:br}{w A A':cg}{row:Option Nat}(h:dB O w c A)(a:cq A A' row)(g:∀r,row=some r->w.heap.size<=r):dB O w c A' :=
 ⟨a.os.trans h.os,a.tape.trans h.tape,a.output.trans h.output,xo h.size a.size,λb d f=>(a.block b (kh d h.size) (λe=>by have:=g b e.symm;omega)).trans (h.block b d f),h.new⟩
def Src.one{O:br}{w:cg}{y:Va}{k n a:Int}{s:bp}{c:bj}{al ac:Nat}{ta:bj}{tl tc:Nat}{na:bj}{d nc:Nat}{T:TypeId}(h:aA (λb=>¬O b) w y (bg k n a s c al ac ta tl tc na d nc)) :
 Src O (w.alloc (.cells #[.i k,.i n,.i a,.string s,.slice c al ac,.slice ta tl tc,.slice na d nc] T)) [y] (.o (w.heap.size) 1 1):=by
 refine⟨[bg k n a s c al ac ta tl tc na d nc],?_,rfl,λi x u e f=>?_⟩
 .have:=gZ.new w T #[.i k,.i n,.i a,.string s,.slice c al ac,.slice ta tl tc,.slice na d nc] 1 1;simpa[flat,nodeCells,bg]using this
 .cases i with
  | zero =>
   simp only[kO,qq]at e f;subst e;subst f;exact (dB.grow (O:=O) (Lf.gb _)).lies h
  | succ i=>simp at e
def rR{w:cg}{b:Nat}{T:TypeId}{x:cm}(h:w.heap[b]?=some (.cells #[x] T)):w.cell? ⟨b,0,none⟩=some x:=by simp[World.cell?,h]
def We{w:cg}{b:Nat}{T:TypeId}{x:cm}(h:w.heap[b]?=some (.cells #[x] T)):w.frozen? ⟨b,0,none⟩=false:=by simp[World.frozen?,h]
def LP{w:cg}{b:Nat}{T:TypeId}{x:cm}(h:w.heap[b]?=some (.cells #[x] T)):¬dP w b:=by rintro⟨cs,e,d,a,c⟩;rw[h]at a;cases a;simp at c
def NB{O c:br}{X Y:cg}(h:dB O X c Y)(hc:∀b,O b->∃cs e,X.heap[b]?=some (.cells cs e))(n:Nat):KeepsFrom n X Y :=
 ⟨h.size,λk o _ a f=>(h.block k (kj.1 a).1 (λd=>by have⟨cs,e,g⟩:=hc k d;rw[g]at a;cases a;cases f)).trans a⟩
section
variable {B:Nat}{O:br}{w:cg}{mb:Nat}{en:En}{aC:Int}{m:Ma}
def Fh{l:ao}{I:bj}{c:Nat}{V:bt}(h:dm B O w mb en aC m)(hl:aT (λb=>¬O b) w l I V)(hz:vsizes l<=20000000)(bh:m.st.length+l.length<=100000000):Calls prog 207 #[.po mb,.slice I l.length c] w (jK B O w mb en aC (bz m l)):=by
 refine (callsIn_wide (n:=5)).1 ?_;refine callsIn_of_wp_marks func207 rfl trivial ?_ rfl;simp only[ntmps207,jd6,js,qa1,Nat.reduceAdd,Nat.reduceSub,kb0,ka7,List.push_toArray,List.append_toArray,qe5,qd2]
 gi_wp2_with (refine⟨trivial,?_⟩;gi_at_call 232;refine (TJ Fence.wide _ trivial rfl _ _ _ _).mono ?_;rintro e w' ⟨rfl,rfl⟩)
 have⟨p,z⟩:∃p,((w.alloc (.cells #[.po mb] 227)).alloc (.cells #[.i 0] 40)).alloc (.cells #[.slice I l.length c] 27)=p:=⟨_,rfl⟩;rw[z];have F:cq w p none:=by rw[<-z];exact Lf.Zt (Lf.Zt (Lf.gb _) (Lf.gb _)) (Lf.gb _)
 have ah:p.heap.size=w.heap.size+3:=by rw[<-z];simp
 have hA2:p.cell? ⟨w.heap.size,0,none⟩=some (.po mb):=by rw[<-z];exact oG (Lf.Zt (Lf.gb _) (Lf.gb _)) (rR (xF w _))
 have hA4:p.heap[w.heap.size+1]?=some (.cells #[.i 0] 40):=by rw[<-z];have:=xF (w.alloc (.cells #[.po mb] 227)) (.cells #[.i 0] 40);rw[qh0]at this;exact dh this (Lf.gb _)
 have ak:p.cell? ⟨w.heap.size+1+1,0,none⟩=some (.slice I l.length c):=by rw[<-z];have:=xF ((w.alloc (.cells #[.po mb] 227)).alloc (.cells #[.i 0] 40)) (.cells #[.slice I l.length c] 27);rw[qh0,qh0]at this;exact rR this
 have ab:aT (λb=>¬O b) p l I V:=(dB.grow (O:=O) F).U5 hl;have ar:=h.grow F;have g:∀b,w.heap.size<=b->¬O b:=λb hb L=>by have:=h.high b L;omega
 have⟨b,bb,Y⟩:∃b,(l≠[]->∀q o,I=some ⟨q,o,none⟩->b=q)/\b<p.heap.size/\¬O b:=by
  cases l with
  | nil=>exact⟨w.heap.size,λh=>absurd rfl h,od,g _ (jj _)⟩
  | cons x r =>
   have⟨q,o,e,hq,k,n,a,s,aa,al,ac,ta,tl,tc,na,nl,nc,_,h0,_⟩:=hl.2.1 0 oe;exact⟨q,λ_ q' o' e'=>by rw[e]at e';cases e';rfl,by have:=qb7 w _ h0;simp only at this;omega,hq⟩
 have⟨R,bn,bm,N⟩:∃R:List (Item O p),R.length=l.length/\(∀r (h:r<R.length),encI R[r]=#[.i ((R.length - 1 - r:Nat):Int),V (R.length - 1 - r)])/\vQ R=l.reverse:=by
  refine⟨List.ofFn λr:Fin l.length=>⟨(l.length - 1 - r.1,l[l.length - 1 - r.1],V (l.length - 1 - r.1)),ab.2.2 _ od,xo (fO (yy od)) hz⟩,oe,λr h=>by simp[encI],?_⟩;apply List.ext_getElem
  .simp[vQ]
  .intro i f d;simp[vQ]
 refine wpIn_rangeFunc_ownH rfl ot (gf:=246) (lb:=#[.po (w.heap.size+1+1)]) rfl trivial (enters_of func246 oA rfl)
  (Je (encs:=encI) Fence.wide 4 trivial rfl ot (w.heap.size+1+1) b c I V R od bm p (λhx q o e=>bb (λe2=>hx (jz (by rw[bn,e2];rfl))) q o e) od (by rw[bn];exact ak) (λj hj=>(ab.2.1 j od).ae λ_ _ _=>trivial))
  (λf d o=>⟨(d o).1.trans (f o).1,(d o).2.trans (f o).2⟩) (λW l o o' hl h _ _ q=>by have C:=grownBy_putObj' W l o';have ad:=(kj.1 h).1;exact⟨ke (C.block (w.heap.size+1+1) od ov),ke (C.block b od ov)⟩) (Below.refl _ _) (λ_=>rfl)
  (λpre W=>(∃O',dm B O' W mb en aC { m with st:=(vQ pre).reverse++m.st }/\dB O p O' W)/\(vQ pre).any yN=false)
  (λcd pre W=>cd =.ret/\(vQ pre).any yN/\W.cell? ⟨w.heap.size+1,0,none⟩=some (.i 13)/\∃O' m',m'.paid=m.paid/\m'.said=m.said/\dm B O' W mb en aC m'/\dB O w O' W)
  ?own ?ownx ⟨⟨O,ar,dB.refl _ _⟩,rfl⟩
  (λx a' W=>∃Bx k n a s aa al ac ta tl tc na nl nc,p.heap.size<=Bx/\x.1.2.2=bg k n a s aa al ac ta tl tc na nl nc/\W.heap[Bx]?=some (.cells #[.i k,.i n,.i a,.string s,.slice aa al ac,.slice ta tl tc,.slice na nl nc] 29) /\
   a' = { tmps:=#[.po mb,.slice I l.length c,.po (w.heap.size),undef,.po (w.heap.size+1),undef,.po Bx,.slice I l.length c,.func (.func 246) #[] #[.po (w.heap.size+1+1)],.i (x.1.1:Int),x.1.2.2,undef,undef,undef,undef,undef,undef,undef],defers:=[] })
  ?ownA ?assign ?body ?done ?stop
 case own =>
  rintro pre A A' row ⟨⟨O',f,d⟩,t⟩ C H;exact⟨⟨O',f.turn C λr e=>f.no (H r e).2,d.zB C λr e=>(H r e).1⟩,t⟩
 case ownx =>
  rintro cd pre A A' row ⟨f,d,t,O',m',h4,h5,h6,h7⟩ C H;exact⟨f,d,(cell_kept t C λr e=>(H r e).2),O',m',h4,h5,h6.turn C λr e=>h6.no (H r e).2,h7.zB C λr e=>by have:=(H r e).1;omega⟩
 case ownA =>
  rintro x a' _ A A' row ⟨Bx,k,n,a,s,aa,al,ac,ta,tl,tc,na,nl,nc,f,d,t,h4⟩ C H;exact⟨Bx,k,n,a,s,aa,al,ac,ta,tl,tc,na,nl,nc,f,d,(Cx C (λr e=>DZ (H r e).2) ⟨_,_,_,t,oe⟩).trans t,h4⟩
 case assign =>
  rintro lo pre ⟨⟨ix,y,v⟩,hL,aj⟩ W K ⟨⟨O',f,d⟩,t⟩ hK;obtain⟨k,n,a,s,aa,al,ac,ta,tl,tc,na,nl,nc,rfl⟩:=hL.bg;dsimp only[encI,bg]
  gi_wp2
  refine hK _ _ ((KeepsOthers.alloc _ _).from _) (λo=>⟨?_,?_⟩) ⟨⟨O',f.grow (Lf.gb _),d.trans (dB.grow (Lf.gb _))⟩,t⟩ ⟨W.heap.size,k,n,a,s,aa,al,ac,ta,tl,tc,na,nl,nc,d.size,rfl,xF _ _,rfl⟩
  .exact ke ((Lf.gb _).block (w.heap.size+1+1) (by have:=d.size;omega) oe)
  .exact ke ((Lf.gb _).block b (by have:=d.size;omega) oe)
 case body =>
  rintro lo pre ⟨⟨ix,y,v⟩,hL,aj⟩ a' W ck ⟨r,H⟩ ⟨⟨O',f,d⟩,t⟩ ⟨Bx,k,n,a,s,aa,al,ac,ta,tl,tc,na,nl,nc,cp,ev,bc,rfl⟩ cn;dsimp only at hL aj ev;subst ev;have U:=d.lies hL;have HS:=jh (RL (U.ae (ok':=λ_=>True) λ_ _ _=>trivial) aj W (au _ _));have q2:=(ke (d.block w.heap.size od (g _ (jj _)))).trans hA2;have Q:=(d.block (w.heap.size+1) od (g _ od)).trans hA4;have KB:=λ(w':cg) (h:cq W w' none)=>And.intro (cO (dh bc h)) (And.intro (oG h q2) (And.intro (rR (dh Q h)) (We (dh Q h))));have M:¬O' (w.heap.size+1):=λL=>by rcases d.new _ L with h|h;exact g _ od h;omega
  have az:¬O' (w.heap.size+1+1):=λL=>by rcases d.new _ L with h|h;exact g _ od h;omega
  have ax:¬O' b:=λL=>by rcases d.new _ L with h|h;exact Y.2 h;omega
  have cr:cq W W none:=au _ _;unfold bg at HS
  by_cases hb:200<wrap64 (vsum y:Nat)
  .gi_wp2_with (refine⟨trivial,?_⟩;gi_at_call 56;refine (CallsIn.inRound lo (callsIn_wide.2 HS)).mono ?_;rintro e w1 ⟨rfl,u⟩)
   have k4:=dh Q u;have E:cq w1 (w1.setCell ⟨w.heap.size+1,0,none⟩ (.i 13)) (some (w.heap.size+1)):=aX (au _ _) _ _ _;refine⟨(KeepsFrom.of_grownBy u (λj e=>by cases e)).trans ((KeepsOthers.setCell _ _ _).from _),rfl,by simp[vQ,yN,hb],World.cell?_setCell_same' _ _ _ (by rw[rR k4];rfl),O',{ m with st:=(vQ pre).reverse++m.st },rfl,rfl,(f.grow u).turn E (λr e=>by cases e;exact⟨LP k4,M⟩),(((dB.grow F).trans d).trans (dB.grow u)).zB E (λr e=>by cases e;omega)⟩
  .have G:((vQ pre).reverse++m.st).length+[y].length<=100000000:=by simp[vQ];omega
   have⟨HM,H1,H2,H3,cc,cb,bq,ch⟩:=wj (λ(w1:cg) (hS:cq W w1 none)=>Ha (l:=[y]) ((f.grow hS).grow (Lf.gb _)) (Src.one (T:=29) ((dB.grow (O:=O') hS).lies U)) G) f d t az ax Y ah;generalize aO:ownPostG _ _ _ _ _ _=QQ;have cf:=jh aO;clear aO;clear f d t U az ax Y ah H ck bc q2 Q M hA2 hA4 ak ab ar g bb bm N F z hl hz bh G h
   gi_wp2_with (first
    | (refine⟨trivial,?_⟩;gi_at_call 56;refine (CallsIn.inRound lo (callsIn_wide.2 HS)).mono ?_;rintro e w1 ⟨rfl,u⟩)
    | (refine⟨trivial,?_⟩;gi_at_call 193;have bk:=CallsIn.inRound lo ((callsIn_wide (n:=2)).2 (HM w1 u));refine bk.mono ?_;clear bk HM HS;rintro e w2 ⟨rfl,O2,an,J⟩;have bx:=jh an;have ca:=jh J;clear an J;refine qb4 λbl=>?_))
   apply bl;clear bl;rename_i K1 aq;refine aq _ _ ?_;clear aq
   gi_wp2
   rw[<-cf.out];have J:=ca.out;have hF:dB O' W O2 w2:=((dB.grow u).trans (dB.grow (Lf.gb _))).trans bx;have d:=H2.out;have t:=H3.out;have ah:=ch.out;have ad:w.heap.size+1+1<W.heap.size/\b<W.heap.size:=by have:=d.size;have:=bq.out.1;omega
   have g1:KeepsFrom p.heap.size W w2:=NB hF (dm.cells H1) _;have g2:YP (w.heap.size+1+1) b W w2:=λo=>⟨ke (hF.block (w.heap.size+1+1) ad.1 cc),ke (hF.block b ad.2 cb)⟩;have g4:=d.trans hF;have g5:yN y=false:=zE od;have g6:∀x:Item O p,x.1.2.1=y->(∃O',dm B O' w2 mb en aC { m with st:=(vQ (pre++[x])).reverse++m.st }/\dB O p O' w2)/\(vQ (pre++[x])).any yN=false:=λx e=>by
    rw[OL,e];refine⟨⟨O2,?_,g4⟩,?_⟩
    .rw[qg5,qa3];exact J
    .rw[List.any_append,t,List.any_cons,List.any_nil,g5];rfl
   exact Ag g1 g2 (g6 _ rfl)
 case done =>
  rintro D ys W hD rfl ⟨⟨O',f,d⟩,t⟩ hK;have Q:=(d.block (w.heap.size+1) od (g _ od)).trans hA4;have z0:=rR Q;have z1:=We Q
  gi_wp2
  have S:=(KeepsOthers.setCell W ⟨w.heap.size+1,0,none⟩ (.i 0)).same D _ hK rfl;refine⟨oe,.inl ⟨_,_,rfl,run_takeDeferred S,?_⟩⟩;have Z:=cell_kept (World.cell?_setCell_same' W ⟨w.heap.size+1,0,none⟩ (.i 0) (by rw[z0];rfl)) (grownBy_putObj' _ D (.deferred none)) (λr e=>by cases e;exact⟨_,S,rfl⟩);have M:¬O' (w.heap.size+1):=λL=>by rcases d.new _ L with h|h;exact g _ od h;omega
  have E:cq W (W.setCell ⟨w.heap.size+1,0,none⟩ (.i 0)) (some (w.heap.size+1)):=aX (au _ _) _ _ _;have X:=f.turn E (λr e=>by cases e;exact⟨LP Q,M⟩);refine⟨.i 0,by simp[results,results207,go_sem,Z],O',(((dB.grow F).trans d).zB E (λr e=>by cases e;omega)).zB (grownBy_putObj' _ D (.deferred none)) (λr e=>by cases e;omega),?_⟩;rw[N,List.any_reverse]at t;rw[N,jf6]at X;unfold bz;rw[oa,t,if_neg oe];exact⟨rfl,X.turn (grownBy_putObj' _ D (.deferred none)) (λr e=>by cases e;exact X.no ⟨_,S,rfl⟩)⟩
 case stop =>
  rintro D cd pre W hD ⟨k,hk,rfl⟩ ⟨rfl,P,cj,O',m',e1,e2,f,d⟩ hK
  gi_wp2
  refine⟨oe,.inl ⟨_,_,rfl,run_takeDeferred hK,?_⟩⟩;have Z:=cell_kept cj (grownBy_putObj' _ D (.deferred none)) (λr e=>by cases e;exact⟨_,hK,rfl⟩);refine⟨.i 13,by simp[results,results207,go_sem,Z],O',d.zB (grownBy_putObj' _ D (.deferred none)) (λr e=>by cases e;omega),?_⟩;have ba:l.any yN:=by rw[<-List.any_reverse,<-N];rw[qg0]at P|-;have⟨y,hy,cl⟩:=P;exact⟨y,by simp only[vQ,kB]at hy|-;have⟨x,hx,e⟩:=hy;exact⟨x,qe6 hx,e⟩,cl⟩
  unfold bz;rw[oa,ba,if_pos rfl];exact⟨ot,rfl,m',e1,e2,f.turn (grownBy_putObj' _ D (.deferred none)) (λr e=>by cases e;exact f.no ⟨_,hK,rfl⟩)⟩
end
section
variable {B:Nat}{O O':br}{w w':cg}{mb:Nat}{en:En}{aC:Int}{m:Ma}{k n a:Int}{s:bp}{aa:bj}{al ac:Nat}{ta:bj}{tl tc:Nat}{na:bj}{nl nc:Nat}{sv fv:cm}{us fs:bo}
def Ue:(prog.info? 217).map (λi=>(i.zero,i.size,i.bytes))=some (some (.agg #[.n0,.i 0,.n0,.n0]),4,80):=oA
def OX (us:bo):Prop:=∀u∈us,∃ra rl rc op wa wl wc aa al ac,u=yF ra rl rc op wa wl wc aa al ac
def wE{us:bo}(h:OX us):(flat us).length=us.length*4/\∀y∈flat us,y.oneCell':=by
 refine⟨rY λu b=>?_,λy a=>?_⟩
 .have⟨c,f,d,op,g,wl,wc,aa,al,ac,e⟩:=h u b;rw[e];rfl
 .simp only[flat,qb2]at a;have⟨u,b,a⟩:=a;have⟨c,f,d,op,g,wl,wc,aa,al,ac,e⟩:=h u b;rw[e]at a;simp[yF,nodeCells]at a;rcases a with rfl|rfl|rfl|rfl<;>rfl
def jc.form:∀{f:List Fr}{us:bo},jc B O w f us->OX us/\us.length=f.length
 | [],[],_=>⟨λu d=>by simp at d,rfl⟩
 | f::fs,u::us,h=>by
  have⟨c,b⟩:=h;obtain⟨i,j,k,wc,aa,ac,e,g,rfl,_⟩:=c;refine⟨λv a=>?_,by simp[b.form.2]⟩;rcases kl.1 a with rfl|a
  .exact⟨_,_,_,_,_,_,_,_,_,_,rfl⟩
  .exact b.form.1 v a
 | [],_::_,h=>h.elim
 | _::_,[],h=>h.elim
def jc.snoc{f:Fr}{u:cm}(a:wU B O w f u):∀{l:List Fr}{us:bo},jc B O w l us->jc B O w (l++[f]) (us++[u])
 | [],[],_=>⟨a,trivial⟩
 | f::fs,u::us,h=>⟨h.1,jc.snoc a h.2⟩
 | [],_::_,h=>h.elim
 | _::_,[],h=>h.elim
def jc.split{f:Fr}{u:cm} : ∀{l:List Fr}{us:bo},jc B O w (l++[f]) (us++[u])->jc B O w l us/\wU B O w f u
 | [],[],h=>⟨trivial,h.1⟩
 | f::fs,u::us,h=>⟨⟨h.1,(jc.split h.2).1⟩,(jc.split h.2).2⟩
 | [],u::us,h=>by have:=h.2;cases us<;>exact this.elim
 | f::fs,[],h=>by have:=h.2;cases fs<;>exact this.elim
def kV{f:Fr}{u:cm} : ∀{l:List Fr}{us:bo},us.length=l.length->keptBs (l++[f]) (us++[u])=keptBs l us++lM f u
 | [],[],_=>by simp[keptBs]
 | f::fs,u::us,h=>by simp only[qd2,keptBs,kV (by simpa using h),qa3]
def bU.apart(h:bU B O w mb en aC m k n a s aa al ac ta tl tc na nl nc sv fv us fs):(∀g,sv.ownBlock=some g->g≠mb/\fv.ownBlock≠some g)/\(∀g∈keptBs m.fr.reverse fs,g≠mb/\fv.ownBlock≠some g/\sv.ownBlock≠some g)/\fv.ownBlock≠some mb:=by
 have hF:∀{g:Nat} {cs:Array cm},w.heap[g]?=some (.cells cs 29)->fv.ownBlock≠some g:=λb e=>aD h.own b ot e.symm;refine⟨λg e=>?_,λg d=>?_,λe=>aD h.own h.blk ot e.symm⟩
 .rcases h.jL.own.2 with⟨c,_⟩|⟨j,f,i,c,_,b,_⟩
  .rw[c]at e;cases e
  .rw[c]at e;cases e;exact⟨dC b h.blk ot,hF b⟩
 .have⟨_,cs,b⟩:=h.sZ.mine g d;exact⟨dC b h.blk ot,hF b,λe=>(qe0.1 h.nodup).2.2 g (by simp[e]) g d rfl⟩
def bU.push(h:bU B O w mb en aC m k n a s aa al ac ta tl tc na nl nc sv fv us fs)(i:dB O w O' w'){st:ao}{f:Fr}{u sv' c:cm}{us':bo}(d:w'.heap[mb]?=some (.cells (yG en aC m.paid m.aO k n a s aa al ac ta tl tc na nl nc sv' c) 214))
 (hstk:sU B O' w' st.reverse sv' us') (hown:kU B w' c (fs++[u])) (hu:wU B O' w' f u) (hnd:(sv'.ownBlock.toList++(keptBs m.fr.reverse fs++lM f u)).Nodup) (hO:∀g,O g->fv.ownBlock≠some g->O' g) (hk:∀g∈keptBs m.fr.reverse fs,w'.heap[g]?=w.heap[g]?)
 (hfv:∀g,c.ownBlock=some g->O' g) (hcells:∀b,O' b->∃cs e,w'.heap[b]?=some (.cells cs e)):bU B O' w' mb en aC { m with st:=st,fr:=f::m.fr } k n a s aa al ac ta tl tc na nl nc sv' c us' (fs++[u]):=by
 have o:=h.apart;have q:=h.sZ.form.2;refine⟨d,i.lies h.said,hstk,hown,?_,?_,⟨hO _ h.mine.1 o.2.2,hfv⟩,λb p=>?_,hcells,h.num⟩
 .simp only[qd1];exact jc.snoc hu (h.sZ.kept i λg j=>⟨hO g (h.sZ.mine g j).1 (o.2.1 g j).2.1,hk g j⟩)
 .simp only[qd1];rw[kV q];exact hnd
 .rcases i.new b p with l|l
  .exact h.low b l
  .have:=h.low _ h.mine.1;have:=h.high _ h.mine.1;omega
def WY{w:cg}{g:Nat}{T:TypeId}{x0 a b c:cm}(h:w.heap[g]?=some (.cells #[x0,a,b,c] T (0,0))):w.cell? ⟨g,0,none⟩=some x0/\w.cell? ⟨g,1,none⟩=some a/\w.cell? ⟨g,2,none⟩=some b/\w.cell? ⟨g,3,none⟩=some c:=by simp[World.cell?,h]
def IW (B:Nat) (w:cg) (mb:Nat) (fv:cm) (us:bo) (e:Ending) (w':cg):Prop :=
 e =.returned (.tuple #[])/\∃fv' w1,Gr w fv w1 fv'/\kU B w1 fv' us/\w'=w1.setCell ⟨mb,15,none⟩ fv'
def Dm{ra:bj}{rl rc:Nat}{op:Int}{wa:bj}{wl wc:Nat}{ba:bj}{bl bc:Nat}(h:bU B O w mb en aC m k n a s aa al ac ta tl tc na nl nc sv fv us fs)(q:m.fr.length<=100000000):Calls prog 172 #[.po mb,.agg #[.slice ra rl rc,.i op,.slice wa wl wc,.slice ba bl bc]] w (IW B w mb fv (fs++[yF ra rl rc op wa wl wc ba bl bc])):=by
 have y:=Lf.gb (w:=w) (.cells #[.slice ra rl rc,.i op,.slice wa wl wc,.slice ba bl bc] 217);have x:=xF w (.cells #[.slice ra rl rc,.i op,.slice wa wl wc,.slice ba bl bc] 217);have HM:=jh h;have g:Hid (fs.length<=100000000):=by have:=h.sZ.form.2;rw[qb3]at this;exact (by omega:fs.length<=100000000)
 have HB:Hid (B<=w.heap.size):=by have:=h.low _ h.mine.1;have:=h.high _ h.mine.1;exact (by omega:B<=w.heap.size)
 have H:=h.high _ h.mine.1;clear h q;go_enter func172,ntmps172;go_wp2_with fail;refine wp_region_held_drew (S:=λw'=>w'.heap[w.heap.size]?=some (.cells #[.slice ra rl rc,.i op,.slice wa wl wc,.slice ba bl bc] 217)) oA x (λc=>?_);have f:cq w (w.alloc (.cells #[.slice ra rl rc,.i op,.slice wa wl wc,.slice ba bl bc] 217)).drew none:=aK y;generalize (w.alloc _).drew=E at *;have b:=jh (HM.grow f);have t:=(iM b.blk).2.2.2.2.2.2.2.2.1;have C:=oG (Lf.gb (w:=E) (.cells #[.slice ra rl rc,.i op,.slice wa wl wc,.slice ba bl bc] 217)) t;refine bu 0 4 ?_;simp only[Act.put,pS];refine bu 1 5 ?_;simp only[Act.put,pS];refine bu 2 6 ?_;simp only[Act.put,pS];refine bu 3 7 ?_;simp only[Act.put,pS];refine LX 5 9 (v:=.agg #[.slice ra rl rc,.i op,.slice wa wl wc,.slice ba bl bc]) ⟨_,rfl,rfl,rfl,λN G=>?_⟩ ?_
 .have z:=WY G;go_simp
 simp only[Act.put,pS];have d:=aB (o:=.cells #[.slice ra rl rc,.i op,.slice wa wl wc,.slice ba bl bc] 217) c;refine qd4 (rs:=[4,6]) oA oe ?_;refine qa4 rfl (λK hK=>?_) (qa4 rfl (λK hK=>?_) qd0)
 focus
  go_simp;refine hK _ _ c (λ_=>?_);clear hK K;refine qd4 (rs:=[6]) oA oe ?_;refine qa4 rfl (λK hK=>?_) qd0;go_simp;refine hK _ _ d (λ_=>?_);clear hK K
 rotate_left
 focus
  go_simp;refine hK _ _ d (λ_=>?_);clear hK K;refine qd4 (rs:=[4]) oA oe ?_;refine qa4 rfl (λK hK=>?_) qd0;go_simp;refine hK _ _ d (λ_=>?_);clear hK K
 all_goals
  refine qd4 (rs:=[7]) oA oe ?_;refine qa4 rfl (λK hK=>?_) qd0;refine yx rfl (.tmp 8) (.tmp 10) 212 rfl B 217 underlying212 Ue rfl ot fv fs.length (flat fs) rfl (qg4 b.own _) (.o (E.heap.size) 1 1) 1 [.slice ra rl rc,.i op,.slice wa wl wc,.slice ba bl bc] rfl rfl (gZ.new _ _ _ _ _) (by intro u D;simp at D;rcases D with rfl|rfl|rfl|rfl<;>rfl) (by have:=g.out;unfold maxLen;omega) (by have:=g.out;omega) (xo HB (xo f.size (Lf.gb _).size)) ?_;intro M I A r _;obtain⟨J,L,rfl⟩:=nX A;have HO:=jh A;have F:=jh r;have l:=b.out.blk;have p:=(r.block (kh (b.high _ b.mine.1) (Lf.gb _).size) b.apart.2.2.symm).trans (aB l);have P:=iM p;have j:=(r.block (kj.1 d).1 (λe=>jg4 _ (qb5 HM.own _ e.symm).2)).trans d;clear A r l p;refine hK _ _ j (λ_=>?_);clear hK K;refine bu 8 12 ?_;simp only[Act.put,pS];refine bu 9 13 ?_;simp only[Act.put,pS];refine qd4 (rs:=[10]) oA oe ?_;refine qa4 rfl (λK hK=>?_) qd0;go_simp;refine hK _ _ ((Below.heap_setCell _ _ _ _ (by show w.heap.size≠mb;omega)).trans j) (λ_=>?_);clear hK K;refine wpAnyH_done oA ?_ _;go_wp2_with fail;refine jb3 (v:=.tuple #[]) (by simp[results,results172,go_sem]) rfl ?_;refine⟨rfl,_,I,?_,?_,rfl⟩
  .exact Gr.trans ⟨ma (Lf.Zt f (Lf.gb _)),.inl rfl⟩ F
  .unfold kU;rw[jx,bV];exact HO
def Dp{ra:bj}{rc:Nat}{wa:bj}{wc:Nat}{ba:bj}{bc:Nat}{f:Fr}{L VW VA:bt}(h:dm B O w mb en aC m)(x:m.fr.length<=100000000)(r:f.op≠67/\bD f.op)(T:cK (λb=>¬O b) w f.rest ra L)(U:cK (λb=>¬O b) w f.row wa VW)(S:aT (λb=>¬O b) w f.aside ba VA)(hc:f.rest.length<=rc/\f.row.length<=wc/\f.aside.length<=bc) :
 Calls prog 172 #[.po mb,.agg #[.slice ra f.rest.length rc,.i f.op,.slice wa f.row.length wc,.slice ba f.aside.length bc]] w (K8 B O w mb en aC { m with fr:=f::m.fr }):=by
 have⟨k,n,a,s,aa,al,ac,ta,tl,tc,na,nl,nc,sv,fv,us,fs,h⟩:=h;refine (Dm h x).mono ?_;rintro e w' ⟨rfl,c,y,v,K,rfl⟩;have o:=h.apart;have j:cq y (y.setCell ⟨mb,15,none⟩ c) (some mb):=aX (au _ _) _ _ _;have D:=dB.gr v h.mine.2;have I:qx O fv c mb:=.inl ⟨h.mine.1,o.2.2⟩;have F:dB (qx O fv c) y (qx O fv c) (y.setCell ⟨mb,15,none⟩ c):=dB.ofRow j (λq e=>by cases e;exact I);have t:=D.trans F;have E:=(v.block (h.high _ h.mine.1) o.2.2.symm).trans h.blk;have p:=(nG E c).2.1;have d:∀g,O g->g≠mb->fv.ownBlock≠some g->(y.setCell ⟨mb,15,none⟩ c).heap[g]?=w.heap[g]?:=λg A Q R=>(j.block g (kh (h.high g A) v.1.size) (by simpa using Q)).trans (v.block (h.high g A) R.symm);have G:∀g,c.ownBlock=some g->g≠mb:=λg e u=>by
  subst u;rcases v.2 with z|⟨V,z,C⟩
  .exact o.2.2 (by rw[<-z,e])
  .rw[e]at z;cases z;have:=h.high _ h.mine.1;omega
 have H:lM f (yF ra f.rest.length rc f.op wa f.row.length wc ba f.aside.length bc)=[]:=by unfold lM;rw[if_neg r.1]
 refine⟨rfl,_,t,_,_,_,_,_,_,_,_,_,_,_,_,_,_,_,_,_,h.push t p (h.jL.kept t λg e=>⟨.inl ⟨h.jL.mine g e,(o.1 g e).2⟩,d g (h.jL.mine g e) (o.1 g e).1 (o.1 g e).2⟩) (iT K λg e=>j.block g (qb5 K g e).2 (by simpa using G g e))
  ⟨ra,rc,wa,wc,ba,bc,L,VW,rfl,r.2,hc,t.Kl T,t.Kl U,λe=>absurd e r.1,λ_=>⟨VA,t.U5 S⟩⟩ (by rw[H,qc4];exact h.nodup) (λg A J=>.inl ⟨A,J⟩) (λg C=>d g (h.sZ.mine g C).1 (o.2.1 g C).1 (o.2.1 g C).2.1) (λg e=>.inr e) (λb l=>?_)⟩
 by_cases e:b=mb
 .subst e;exact⟨_,_,p⟩
 .rcases l with l|l
  .rw[d b l.1 e l.2];exact h.cells b l.1
  .rcases K.2 with⟨u,_⟩|⟨g,N,P,u,_,M,_⟩
   .rw[u]at l;cases l
   .rw[u]at l;cases l;rw[j.block _ (kj.1 M).1 (by simpa using e)];exact⟨_,_,M⟩
end
