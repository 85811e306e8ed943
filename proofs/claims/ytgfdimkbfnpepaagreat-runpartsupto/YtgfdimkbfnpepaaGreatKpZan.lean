import Derived.Test.YtgfdimkbfnpepaaGreatKpZam
import Derived.RangeFuncFrom
import Derived.RangeFuncNested
import Derived.RangeFuncBound
import Derived.RangeFuncCalls
import Derived.RangeFuncLeaves
import Derived.RangeFuncBox
import Derived.Shelf.Abstract
import Derived.Shelf.RegionOpen
import Derived.OwnWalkIn
import Derived.TacticsInMore
import Derived.LoopNIn
import Derived.LoopIn
namespace Go.Proofs.YtgfdimkbfnpepaaGreat
set_option linter.all false
open Go.Proofs.Tryz
open Go.ChangeShapes Go.WideShapes Go.ChangeAt Go.RowKit
set_option maxRecDepth 100000
set_option maxHeartbeats 1000000
structure dB (O:Nat->Prop) (w:World) (O':Nat->Prop) (w':World):Prop where
 os:w'.os=w.os
 tape:w'.tape=w.tape
 output:w'.output=w.output
 size:w.heap.size<=w'.heap.size
 block:∀b,b<w.heap.size->¬O b->w'.heap[b]?=w.heap[b]?
 new:∀b,O' b->O b\/w.heap.size<=b
def dB.refl(O:Nat->Prop)(w:World):dB O w O w:=⟨rfl,rfl,rfl,qv _,λ_ _ _=>rfl,λ_ h=>.inl h⟩
def dB.trans{O d e:Nat->Prop}{w i j:World}(h:dB O w d i)(k:dB d i e j):dB O w e j :=
 ⟨k.os.trans h.os,k.tape.trans h.tape,k.output.trans h.output,kh h.size k.size,λb c g=>(k.block b (jz c h.size) (λa=>by rcases h.new b a with f|f;exact g f;omega)).trans (h.block b c g),
  λb c=>by
   rcases k.new b c with a|a
   .exact h.new b a
   .exact .inr (kh h.size a)⟩
def dB.grow{O:Nat->Prop}{w w':World}(h:w.grownBy w' none):dB O w O w':=⟨h.os,h.tape,h.output,h.size,λb a _=>h.block b a ot,λ_ h=>.inl h⟩
def dB.ofRow{O:Nat->Prop}{w w':World}{r:Option Nat}(h:w.grownBy w' r)(d:∀g,r=some g->O g):dB O w O w' :=
 ⟨h.os,h.tape,h.output,h.size,λb c a=>h.block b c (λe=>a (d b e.symm)),λ_ h=>.inl h⟩
def qx (O:Nat->Prop) (v v':Value):Nat->Prop:=λb=>(O b/\v.ownBlock≠some b)\/v'.ownBlock=some b
def dB.gr{O:Nat->Prop}{w w':World}{v v':Value}(h:Gr w v w' v')(c:∀g,v.ownBlock=some g->O g):dB O w (qx O v v') w' :=
 ⟨h.1.os,h.1.tape,h.1.output,h.1.size,λb a d=>h.1.block b a (λe=>d (c b e.symm)),λb a=>by
  rcases a with a|a
  .exact .inl a.1
  .rcases h.2 with e|⟨g,e,f⟩
   .rw[e]at a;exact .inl (c b a)
   .rw[e]at a;simp only[qk]at a;exact .inr od⟩
def dB.same{O c:Nat->Prop}{w w':World}(h:dB O w c w'):Same (λb=>¬O b) w w':=λb o d a=>qn (h.block b a d)
def dB.lies{O c:Nat->Prop}{w w':World}{x:Va}{u:Value}(h:dB O w c w')(i:aA (λb=>¬O b) w x u):aA (λb=>¬c b) w' x u :=
 ((i.ae (ok':=λb=>¬O b/\¬c b) (λb a f=>⟨f,λg=>by rcases h.new b g with e|e;exact f e;omega⟩)).same (λb o a d=>h.same b o a.1 d)).ae (λb _ a=>a.2)
def dB.Kl{O d:Nat->Prop}{w w':World}{l:List Tr}{a:Option Addr}{V:Nat->Value}(h:dB O w d w')(j:cK (λb=>¬O b) w l a V):cK (λb=>¬d b) w' l a V :=
 ((j.ae (ok':=λb=>¬O b/\¬d b) (λb c g=>⟨g,λi=>by rcases h.new b i with f|f;exact g f;omega⟩)).same (λb o c e=>h.same b o c.1 e)).ae (λb _ c=>c.2)
def dB.U5{O d:Nat->Prop}{w w':World}{l:List Va}{a:Option Addr}{V:Nat->Value}(h:dB O w d w')(j:aT (λb=>¬O b) w l a V):aT (λb=>¬d b) w' l a V :=
 ((j.ae (ok':=λb=>¬O b/\¬d b) (λb c g=>⟨g,λi=>by rcases h.new b i with f|f;exact g f;omega⟩)).same (λb o c e=>h.same b o c.1 e)).ae (λb _ c=>c.2)
def fe (w:World) (b:Nat):Prop:=∃cs e fz,w.heap[b]?=some (.cells cs e fz)/\2<=cs.size
def qz{w:World}{b o:Nat}{u v:Value}(f:w.cell? ⟨b,o,none⟩=some u)(h:w.cell? ⟨b,o+1,none⟩=some v):fe w b:=by
 unfold World.cell? at h
 cases a:w.heap[b]? with
 | none=>simp[a]at h
 | some d =>
  cases d with
  | cells cs e c =>
   refine⟨cs,e,c,a,?_⟩;simp only[a]at h;have:=(qq.1 h).1;omega
  | _=>simp[a]at h
def bI.LM{ok ok':Nat->Prop}{w:World}{t:Tr}{v:Value}(h:bI ok w t v)(r:∀b,fe w b->ok b->ok' b):bI ok' w t v:=by
 induction h with
 | mk V q f A y B j _ z =>
  refine .mk (hk:=by assumption) V q f A y B (λi m=>?_) z;obtain⟨b,o,u,g,k,n,p,s,a,l,c,x,d,e⟩:=j i m;exact⟨b,o,u,r b (qz d e.1) g,k,n,p,s,a,l,c,x,d,e⟩
def cK.LM{ok ok':Nat->Prop}{w:World}{l:List Tr}{a:Option Addr}{V:Nat->Value}(h:cK ok w l a V)(g:∀b,fe w b->ok b->ok' b):cK ok' w l a V :=
 ⟨h.1,λi d=>by obtain⟨b,o,m,j,k,n,p,s,a,l,c,q,e,f⟩:=h.2.1 i d;exact⟨b,o,m,g b (qz e f.1) j,k,n,p,s,a,l,c,q,e,f⟩,λi d=>(h.2.2 i d).LM g⟩
def aH.LM{ok ok':Nat->Prop}{w:World}{t:Ty}{v:Value}(h:aH ok w t v)(p:∀b,fe w b->ok b->ok' b):aH ok' w t v:=by
 induction h with
 | mk V n d u j _ s =>
  refine .mk V n d u (λi m=>?_) s;obtain⟨b,o,q,g,k,a,l,c,r,e,f⟩:=j i m;exact⟨b,o,q,p b (qz e f) g,k,a,l,c,r,e,f⟩
def dw.LM{ok ok':Nat->Prop}{w:World}{l:List Ty}{a:Option Addr}{V:Nat->Value}(h:dw ok w l a V)(g:∀b,fe w b->ok b->ok' b):dw ok' w l a V :=
 ⟨h.1,λi d=>by obtain⟨b,o,m,j,k,a,l,c,n,e,f⟩:=h.2.1 i d;exact⟨b,o,m,g b (qz e f) j,k,a,l,c,n,e,f⟩,λi d=>(h.2.2 i d).LM g⟩
def aA.LM{ok ok':Nat->Prop}{w:World}{t:Va}{v:Value}(h:aA ok w t v)(d:∀b,fe w b->ok b->ok' b):aA ok' w t v:=by
 induction h with
 | mk V j g u c l C z A m hN q _ B =>
  refine .mk (hnk:=by assumption) V j g u c l C z A (m.LM d) (hN.LM d) (λi r=>?_) B;obtain⟨b,o,x,p,k,n,a,s,aa,al,ac,ta,tl,tc,na,nl,nc,y,e,f⟩:=q i r;exact⟨b,o,x,d b (qz e f.1) p,k,n,a,s,aa,al,ac,ta,tl,tc,na,nl,nc,y,e,f⟩
def aT.LM{ok ok':Nat->Prop}{w:World}{l:List Va}{a:Option Addr}{V:Nat->Value}(h:aT ok w l a V)(f:∀b,fe w b->ok b->ok' b):aT ok' w l a V :=
 ⟨h.1,λi c=>by obtain⟨b,o,j,g,k,n,a,s,aa,al,ac,ta,tl,tc,na,nl,nc,m,d,e⟩:=h.2.1 i c;exact⟨b,o,j,f b (qz d e.1) g,k,n,a,s,aa,al,ac,ta,tl,tc,na,nl,nc,m,d,e⟩,λi c=>(h.2.2 i c).LM f⟩
structure sU (B:Nat) (O:Nat->Prop) (w:World) (l:List Va) (v:Value) (us:List Value):Prop where
 own:dF B w v us
 len:us.length=l.length
 lies:∀(i:Nat) (x:Va) (u:Value),l[i]?=some x->us[i]?=some u->aA (λb=>¬O b) w x u
 mine:∀g,v.ownBlock=some g->O g
def yF (ra:Option Addr) (rl rc:Nat) (op:Int) (wa:Option Addr) (wl wc:Nat) (aa:Option Addr) (al ac:Nat):Value:=.agg #[.slice ra rl rc,.i op,.slice wa wl wc,.slice aa al ac]
def asideV:Value->Value
 | .agg cs=>(cs[3]?).getD (.n0)
 | v=>v
def lM (f:Fr) (u:Value):List Nat:=if f.op=67 then (asideV u).ownBlock.toList else []
def wU (B:Nat) (O:Nat->Prop) (w:World) (f:Fr) (u:Value):Prop :=
 ∃ra rc wa wc aa ac VR VW,u=yF ra f.rest.length rc f.op wa f.row.length wc aa f.aside.length ac/\bD f.op/\(f.rest.length<=rc/\f.row.length<=wc/\f.aside.length<=ac)/\cK (λb=>¬O b) w f.rest ra VR/\cK (λb=>¬O b) w f.row wa VW /\
  (f.op=67->∃us,sU B O w f.aside (.slice aa f.aside.length ac) us)/\(f.op≠67->∃VA,aT (λb=>¬O b) w f.aside aa VA)
def jc (B:Nat) (O:Nat->Prop) (w:World):List Fr->List Value->Prop
 | [],[]=>True
 | f::fs,u::us=>wU B O w f u/\jc B O w fs us
 | [],_::_=>False
 | _::_,[]=>False
def keptBs:List Fr->List Value->List Nat
 | f::fs,u::us=>lM f u++keptBs fs us
 | _,_=>[]
def kU (B:Nat) (w:World) (v:Value) (us:List Value):Prop:=w.ownsRow B 68 4 v us.length (flat us)
def yG (en:En) (aC paid aO k n a:Int) (s:ByteArray) (aa:Option Addr) (al ac:Nat) (ta:Option Addr) (tl tc:Nat) (na:Option Addr) (nl nc:Nat) (sv fv:Value):Array Value :=
 #[.i en.self,.i en.sender,.i en.amount,.i en.balance,.i aC,.i paid,.i aO,.i k,.i n,.i a,.string s,.slice aa al ac,.slice ta tl tc,.slice na nl nc,sv,fv]
structure bU (B:Nat) (O:Nat->Prop) (w:World) (mb:Nat) (en:En) (aC:Int) (m:Ma) (k n a:Int) (s:ByteArray) (aa:Option Addr) (al ac:Nat) (ta:Option Addr) (tl tc:Nat) (na:Option Addr) (nl nc:Nat) (sv fv:Value) (us fs:List Value):Prop where
 blk:w.heap[mb]?=some (.cells (yG en aC m.paid m.aO k n a s aa al ac ta tl tc na nl nc sv fv) 65)
 said:aA (λb=>¬O b) w m.said (bg k n a s aa al ac ta tl tc na nl nc)
 jL:sU B O w m.st.reverse sv us
 own:kU B w fv fs
 sZ:jc B O w m.fr.reverse fs
 nodup:(sv.ownBlock.toList++keptBs m.fr.reverse fs).Nodup
 mine:O mb/\∀g,fv.ownBlock=some g->O g
 low:∀b,O b->B<=b
 cells:∀b,O b->∃cs e,w.heap[b]?=some (.cells cs e)
 num:bD m.paid/\bD m.aO/\bD aC
def dm (B:Nat) (O:Nat->Prop) (w:World) (mb:Nat) (en:En) (aC:Int) (m:Ma):Prop:=∃k n a s aa al ac ta tl tc na nl nc sv fv us fs,bU B O w mb en aC m k n a s aa al ac ta tl tc na nl nc sv fv us fs
def iT{w w':World}{B:Nat}{e:TypeId}{size n:Nat}{v:Value}{xs:List Value}(h:w.ownsRow B e size v n xs)(i:∀g,v.ownBlock=some g->w'.heap[g]?=w.heap[g]?):w'.ownsRow B e size v n xs:=by
 refine⟨h.1,?_⟩;rcases h.2 with h|⟨g,a,b,rfl,c,d,f⟩
 .exact .inl h
 .exact .inr ⟨g,a,b,rfl,c,(i g rfl).trans d,f⟩
def sU.kept{B:Nat}{O a:Nat->Prop}{w w':World}{l:List Va}{v:Value}{us:List Value}(h:sU B O w l v us)(c:dB O w a w')(b:∀g,v.ownBlock=some g->a g/\w'.heap[g]?=w.heap[g]?):sU B a w' l v us :=
 ⟨iT h.own λg e=>(b g e).2,h.len,λi x u j f=>c.lies (h.lies i x u j f),λg d=>(b g d).1⟩
def wU.kept{B:Nat}{O c:Nat->Prop}{w w':World}{f:Fr}{u:Value}(h:wU B O w f u)(b:dB O w c w')(q:∀g∈lM f u,c g/\w'.heap[g]?=w.heap[g]?):wU B c w' f u:=by
 obtain⟨s,t,v,wc,aa,ac,i,j,rfl,k,l,m,n,o,p⟩:=h;refine⟨s,t,v,wc,aa,ac,i,j,rfl,k,l,b.Kl m,b.Kl n,λa=>?_,λa=>?_⟩
 .obtain⟨us,d⟩:=o a;exact⟨us,d.kept b λg r=>q g (by simp[lM,asideV,yF,a,r])⟩
 .obtain⟨e,d⟩:=p a;exact⟨e,b.U5 d⟩
def jc.kept{B:Nat}{O a:Nat->Prop}{w w':World}(d:dB O w a w'):∀{fs:List Fr}{us:List Value},jc B O w fs us->(∀g∈keptBs fs us,a g/\w'.heap[g]?=w.heap[g]?)->jc B a w' fs us
 | [],[],_,_=>trivial
 | f::fs,u::us,h,c=>⟨h.1.kept d λg b=>c g (by simp[keptBs,b]),jc.kept d h.2 λg b=>c g (by simp[keptBs,b])⟩
 | [],_::_,h,_=>h.elim
 | _::_,[],h,_=>h.elim
def wU.mine{B:Nat}{O:Nat->Prop}{w:World}{f:Fr}{u:Value}(h:wU B O w f u){g:Nat}(a:g∈lM f u):O g/\∃cs,w.heap[g]?=some (.cells cs 36):=by
 obtain⟨t,v,x,wc,aa,ac,l,m,rfl,o,p,q,r,j,s⟩:=h;unfold lM at a;split at a
 .rename_i b;obtain⟨us,c⟩:=j b;have a:(Value.slice aa f.aside.length ac).ownBlock=some g:=Option.mem_toList.1 a;refine⟨c.mine g a,?_⟩;rcases c.own.2 with⟨e,_⟩|⟨n,d,i,e,_,k,_⟩
  .rw[e]at a;cases a
  .rw[e]at a;cases a;exact⟨_,k⟩
 .simp at a
def jc.mine{B:Nat}{O:Nat->Prop}{w:World} : ∀{fs:List Fr}{us:List Value},jc B O w fs us->∀g∈keptBs fs us,O g/\∃cs,w.heap[g]?=some (.cells cs 36)
 | f::fs,u::us,h,g,a=>by
  simp only[keptBs,qa0]at a;rcases a with a|a
  .exact h.1.mine a
  .exact jc.mine h.2 g a
 | [],_,_,g,a=>by simp[keptBs]at a
 | _::_,[],h,_,_=>h.elim
section
variable {B:Nat}{O O':Nat->Prop}{w w':World}{mb:Nat}{en:En}{aC:Int}{m:Ma}{k n a:Int}{s:ByteArray}{aa:Option Addr}{al ac:Nat}{ta:Option Addr}{tl tc:Nat}{na:Option Addr}{nl nc:Nat}{sv fv:Value}{us fs:List Value}
def bU.high(h:bU B O w mb en aC m k n a s aa al ac ta tl tc na nl nc sv fv us fs)(b:Nat)(c:O b):b<w.heap.size:=by obtain⟨cs,e,d⟩:=h.cells b c;exact (qq.1 d).1
def bU.grow(h:bU B O w mb en aC m k n a s aa al ac ta tl tc na nl nc sv fv us fs)(i:w.grownBy w' none):bU B O w' mb en aC m k n a s aa al ac ta tl tc na nl nc sv fv us fs:=by have f:dB O w O w':=dB.grow i;have d:∀g,O g->w'.heap[g]?=w.heap[g]?:=λg e=>i.block g (h.high g e) ot;exact⟨(d mb h.mine.1).trans h.blk,f.lies h.said,h.jL.kept f λg c=>⟨h.jL.mine g c,d g (h.jL.mine g c)⟩,iT h.own λg c=>d g (h.mine.2 g c),h.sZ.kept f λg c=>⟨(h.sZ.mine g c).1,d g (h.sZ.mine g c).1⟩,h.nodup,h.mine,h.low,λb e=>by rw[d b e];exact h.cells b e,h.num⟩
def Cx{W c:World}{row:Option Nat}(g:W.grownBy c row)(i:∀r,row=some r->¬fe W r){b:Nat}(d:fe W b):c.heap[b]?=W.heap[b]?:=by have a:=d;obtain⟨cs,e,j,h,_⟩:=d;exact g.block b (qq.1 h).1 (λf=>i b f.symm a)
def DZ{W:World}{r:Nat}(h:∃o:Obj,W.heap[r]?=some o/\o.isCells=false):¬fe W r:=by rintro⟨cs,e,d,c,_⟩;obtain⟨o,a,b⟩:=h;rw[c]at a;cases a;cases b
def vK{W a:World}{row:Option Nat}{O:Nat->Prop}(d:W.grownBy a row)(f:∀r,row=some r->¬fe W r/\¬O r):Same (λb=>¬O b/\fe W b) W a:=λb o c _=>qn (Cx d (λr e=>(f r e).1) c.2)
def Eo{W a:World}{row:Option Nat}{x:Va}{u:Value}(f:W.grownBy a row)(g:∀r,row=some r->¬fe W r/\¬O r)(h:aA (λb=>¬O b) W x u):aA (λb=>¬O b) a x u :=
 ((h.LM (ok':=λb=>¬O b/\fe W b) λb e c=>⟨c,e⟩).same (vK f g)).ae λb _ d=>d.1
def sU.turn{W a:World}{row:Option Nat}{l:List Va}{v:Value}{us:List Value}(b:W.grownBy a row)(c:∀r,row=some r->¬fe W r/\¬O r)(h:sU B O W l v us):sU B O a l v us:=by exact⟨iT h.own λg e=>b.block g (kp h.own g e).2 (λd=>(c g d.symm).2 (h.mine g e)),h.len,λi x u j f=>Eo b c (h.lies i x u j f),h.mine⟩
def jc.turn{W k:World}{row:Option Nat}(g:W.grownBy k row)(i:∀r,row=some r->¬fe W r/\¬O r):∀{fs:List Fr}{us:List Value},jc B O W fs us->jc B O k fs us
 | [],[],_=>trivial
 | f::fs,u::us,h=>by
  refine⟨?_,jc.turn g i h.2⟩;obtain⟨v,w,x,wc,aa,ac,l,m,rfl,n,o,p,q,s,t⟩:=h.1;exact⟨v,w,x,wc,aa,ac,l,m,rfl,n,o,((p.LM (ok':=λb=>¬O b/\fe W b) λb e c=>⟨c,e⟩).same (vK g i)).ae λb _ d=>d.1,((q.LM (ok':=λb=>¬O b/\fe W b) λb e c=>⟨c,e⟩).same (vK g i)).ae λb _ d=>d.1,
   λa=>(s a).imp λus j=>j.turn g i,λa=>(t a).imp λy j=>((j.LM (ok':=λb=>¬O b/\fe W b) λb e c=>⟨c,e⟩).same (vK g i)).ae λb _ d=>d.1⟩
 | [],_::_,h=>h.elim
 | _::_,[],h=>h.elim
def bU.turn{row:Option Nat}(h:bU B O w mb en aC m k n a s aa al ac ta tl tc na nl nc sv fv us fs)(d:w.grownBy w' row)(f:∀r,row=some r->¬fe w r/\¬O r):bU B O w' mb en aC m k n a s aa al ac ta tl tc na nl nc sv fv us fs:=by have i:∀b,O b->w'.heap[b]?=w.heap[b]?:=λb c=>d.block b (h.high b c) (λe=>(f b e.symm).2 c);exact⟨(i mb h.mine.1).trans h.blk,Eo d f h.said,h.jL.turn d f,iT h.own λg e=>i g (h.mine.2 g e),h.sZ.turn d f,h.nodup,h.mine,h.low,λb c=>by rw[i b c];exact h.cells b c,h.num⟩
def bU.stack(h:bU B O w mb en aC m k n a s aa al ac ta tl tc na nl nc sv fv us fs)(o:dB O w O' w'){st:List Va}{sv':Value}{us':List Value}(f:w'.heap[mb]?=some (.cells (yG en aC m.paid m.aO k n a s aa al ac ta tl tc na nl nc sv' fv) 65))
 (hstk:sU B O' w' st.reverse sv' us') (hnd:sv'.ownBlock=sv.ownBlock\/sv'.ownBlock=none\/∃g,sv'.ownBlock=some g/\w.heap.size<=g) (hO:∀g,O g->sv.ownBlock≠some g->O' g) (hk:∀g,O g->g≠mb->sv.ownBlock≠some g->w'.heap[g]?=w.heap[g]?) (hcells:∀b,O' b->∃cs e,w'.heap[b]?=some (.cells cs e)) :
 bU B O' w' mb en aC { m with st:=st } k n a s aa al ac ta tl tc na nl nc sv' fv us' fs:=by
 have l:∀g,fv.ownBlock=some g->g≠mb/\sv.ownBlock≠some g:=λg c=>by
  have z:=h.own;rcases z.2 with⟨e,_⟩|⟨C,r,t,e,_,i,_⟩
  .rw[e]at c;cases c
  .rw[e]at c;cases c;refine⟨dC i h.blk ov,λu=>?_⟩;have:=aD h.jL.own i ov;exact this u.symm
 have j:∀g∈keptBs m.fr.reverse fs,g≠mb/\sv.ownBlock≠some g:=λg c=>by obtain⟨_,cs,i⟩:=h.sZ.mine g c;refine⟨dC i h.blk ov,λe=>?_⟩;have:=qb5.1 h.nodup;exact this.2.2 g (by simp[e]) g c rfl
 refine⟨f,o.lies h.said,hstk,iT h.own λg d=>hk g (h.mine.2 g d) (l g d).1 (l g d).2,h.sZ.kept o λg d=>⟨hO g (h.sZ.mine g d).1 (j g d).2,hk g (h.sZ.mine g d).1 (j g d).1 (j g d).2⟩,?_,⟨hO _ h.mine.1 (λe=>aD h.jL.own h.blk ov e.symm),λg c=>hO _ (h.mine.2 g c) (l g c).2⟩,λb v=>?_,hcells,h.num⟩
 .rcases hnd with e|e|⟨g,e,c⟩
  .rw[e];exact h.nodup
  .rw[e];exact (qb5.1 h.nodup).2.1
  .rw[e];refine qb5.2 ⟨ot,(qb5.1 h.nodup).2.1,λx q y A=>?_⟩;simp at q;subst q;have:=h.high y (h.sZ.mine y A).1;omega
 .rcases o.new b v with p|p
  .exact h.low b p
  .have:=h.low _ h.mine.1;have:=h.high _ h.mine.1;omega
def iM{w:World}{b:Nat}{T:TypeId}{c d:Int}(h:w.heap[b]?=some (.cells (yG en aC c d k n a s aa al ac ta tl tc na nl nc sv fv) T)) :
 w.cell? ⟨b,0,none⟩=some (.i en.self)/\w.cell? ⟨b,1,none⟩=some (.i en.sender)/\w.cell? ⟨b,2,none⟩=some (.i en.amount)/\w.cell? ⟨b,3,none⟩=some (.i en.balance)/\w.cell? ⟨b,4,none⟩=some (.i aC)/\w.cell? ⟨b,5,none⟩=some (.i c)/\w.cell? ⟨b,6,none⟩=some (.i d) /\
 w.cell? ⟨b,14,none⟩=some sv/\w.cell? ⟨b,15,none⟩=some fv/\∀o,w.frozen? ⟨b,o,none⟩=false:=by
 simp[World.cell?,World.frozen?,h,yG]
def nG{w:World}{b:Nat}{T:TypeId}{c d:Int}(h:w.heap[b]?=some (.cells (yG en aC c d k n a s aa al ac ta tl tc na nl nc sv fv) T))(v:Value) :
 (w.setCell ⟨b,14,none⟩ v).heap[b]?=some (.cells (yG en aC c d k n a s aa al ac ta tl tc na nl nc v fv) T)/\(w.setCell ⟨b,15,none⟩ v).heap[b]?=some (.cells (yG en aC c d k n a s aa al ac ta tl tc na nl nc sv v) T) /\
 (∀q:Int,(w.setCell ⟨b,5,none⟩ (.i q)).heap[b]?=some (.cells (yG en aC q d k n a s aa al ac ta tl tc na nl nc sv fv) T))/\(∀q:Int,(w.setCell ⟨b,6,none⟩ (.i q)).heap[b]?=some (.cells (yG en aC c q k n a s aa al ac ta tl tc na nl nc sv fv) T)):=by
 unfold yG at h|-;simp[World.setCell,yr,h]
end
set_option maxHeartbeats 100000000
section
variable {B:Nat}{O:Nat->Prop}{w:World}{mb:Nat}{en:En}{aC:Int}{m:Ma}
def bU.paid{O:Nat->Prop}{m:Ma}{k n a:Int}{s:ByteArray}{v:Option Addr}{al ac:Nat}{ta:Option Addr}{tl tc:Nat}{na:Option Addr}{x nc:Nat}{c p:Value}{us o:List Value}(h:bU B O w mb en aC m k n a s v al ac ta tl tc na x nc c p us o)(q:Int)(u:bD q) :
 bU B O (w.setCell ⟨mb,5,none⟩ (.i q)) mb en aC { m with paid:=q } k n a s v al ac ta tl tc na x nc c p us o:=by
 have j:w.grownBy (w.setCell ⟨mb,5,none⟩ (.i q)) (some mb):=dY (bM _ _) _ _ _;have r:dB O w O (w.setCell ⟨mb,5,none⟩ (.i q)):=dB.ofRow j (λg e=>by cases e;exact h.mine.1);have f:∀g,O g->g≠mb->(w.setCell ⟨mb,5,none⟩ (.i q)).heap[g]?=w.heap[g]?:=λg d t=>j.block g (h.high g d) (by simpa using t);have z:∀g,c.ownBlock=some g->g≠mb:=λg e l=>aD h.jL.own h.blk ov (by rw[e,l]);have A:∀g,p.ownBlock=some g->g≠mb:=λg e l=>aD h.own h.blk ov (by rw[e,l]);have y:∀g∈keptBs m.fr.reverse o,g≠mb:=λg j=>by obtain⟨_,cs,u⟩:=h.sZ.mine g j;exact dC u h.blk ov
 refine⟨(nG h.blk c).2.2.1 q,r.lies h.said,h.jL.kept r λg e=>⟨h.jL.mine g e,f g (h.jL.mine g e) (z g e)⟩,iT h.own λg e=>f g (h.mine.2 g e) (A g e),h.sZ.kept r λg e=>⟨(h.sZ.mine g e).1,f g (h.sZ.mine g e).1 (y g e)⟩,h.nodup,h.mine,h.low,λb d=>?_,⟨u,h.num.2⟩⟩
 by_cases e:b=mb
 .subst e;exact⟨_,_,(nG h.blk c).2.2.1 q⟩
 .rw[f b d e];exact h.cells b d
def jK (B:Nat) (O:Nat->Prop) (w:World) (mb:Nat) (en:En) (aC:Int) (o:Out) (e:Ending) (w':World):Prop:=∃O',dB O w O' w'/\match o with
 | .go m=>e =.returned (.i 0)/\dm B O' w' mb en aC m
 | .no er m=>er≠0/\e =.returned (.i er)/\∃m',m'.paid=m.paid/\m'.said=m.said/\dm B O' w' mb en aC m'
 | .stuck=>False
def dm.grow{w':World}(h:dm B O w mb en aC m)(b:w.grownBy w' none):dm B O w' mb en aC m:=by obtain⟨k,n,a,s,aa,al,ac,ta,tl,tc,na,nl,nc,sv,fv,us,fs,h⟩:=h;exact⟨k,n,a,s,aa,al,ac,ta,tl,tc,na,nl,nc,sv,fv,us,fs,h.grow b⟩
def dm.turn{w':World}{row:Option Nat}(h:dm B O w mb en aC m)(b:w.grownBy w' row)(c:∀r,row=some r->¬fe w r/\¬O r):dm B O w' mb en aC m:=by obtain⟨k,n,a,s,aa,al,ac,ta,tl,tc,na,nl,nc,sv,fv,us,fs,h⟩:=h;exact⟨k,n,a,s,aa,al,ac,ta,tl,tc,na,nl,nc,sv,fv,us,fs,h.turn b c⟩
def dm.cells(h:dm B O w mb en aC m):∀b,O b->∃cs e,w.heap[b]?=some (.cells cs e):=by obtain⟨k,n,a,s,aa,al,ac,ta,tl,tc,na,nl,nc,sv,fv,us,fs,h⟩:=h;exact h.cells
def dm.no{r:Nat}(h:dm B O w mb en aC m)(b:∃o:Obj,w.heap[r]?=some o/\o.isCells=false):¬fe w r/\¬O r:=by refine⟨DZ b,λc=>?_⟩;obtain⟨cs,e,f⟩:=h.cells r c;obtain⟨o,a,d⟩:=b;rw[f]at a;cases a;cases d
def dm.high(h:dm B O w mb en aC m):∀b,O b->b<w.heap.size:=by obtain⟨k,n,a,s,aa,al,ac,ta,tl,tc,na,nl,nc,sv,fv,us,fs,h⟩:=h;exact h.high
def Ff(h:dm B O w mb en aC m):Calls prog 116 #[.pointer (some ⟨mb,0,none⟩)] w (jK B O w mb en aC (uH aC m .go)):=by
 have i:=jh h;obtain⟨k,n,a,s,aa,al,ac,ta,tl,tc,na,nl,nc,sv,fv,us,fs,h⟩:=h;have l:=h.num;unfold bD at l;have HM:=jh h;have K:=λ(w':World) (h:w.grownBy w' none)=>iM (l5 HM.blk h);have d:w.grownBy w none:=bM _ _;have b:=jh (fK d);clear h
 by_cases f:m.paid ≥ aC
 .have c:Hid (uH aC m .go =.no 12 m):=by show _=_;unfold uH;rw[if_pos f]
  go_enter func116,ntmps116;go_wp2_with fail;go_region_held3 (λw'=>w.grownBy w' none) (first|with_reducible assumption|with_reducible exact fK oS) (fail);go_wp2_with fail;go_ret;rw[c.out];exact⟨O,dB.grow b.out,ov,rfl,m,rfl,rfl,i.out.grow b.out⟩
 .have o:wrap64 (m.paid+1)=m.paid+1:=by unfold wrap64;omega
  have c:Hid (uH aC m .go =.go { m with paid:=m.paid+1 }):=by show _=_;unfold uH;rw[if_neg f]
  go_enter func116,ntmps116;go_wp2_with fail;go_region_held3 (λw'=>w.grownBy w' none) (first|with_reducible assumption|with_reducible exact fK oS) (fail);go_wp2_with fail;go_ret;rw[c.out];have j:=(HM.out.grow b.out).paid (m.paid+1) vf;exact⟨O,(dB.grow b.out).trans (dB.ofRow (dY (bM _ _) _ _ _) (λg e=>by cases e;exact HM.out.mine.1)),rfl,_,_,_,_,_,_,_,_,_,_,_,_,_,_,_,_,_,j⟩
def kc{w w':World}{r:Option Nat}{b o:Nat}{v:Value}(h:w.cell? ⟨b,o,none⟩=some v)(a:w.grownBy w' r)(c:some b≠r):w'.cell? ⟨b,o,none⟩=some v:=(qn (a.block b (kd w _ h) c)).trans h
def kb{w w':World}{r:Option Nat}{b:Nat}{o:Obj}(h:w.heap[b]?=some o)(a:w.grownBy w' r)(c:some b≠r):w'.heap[b]?=some o:=(a.block b (qq.1 h).1 c).trans h
def C7 (w:World) (g o:Nat) (k n a:Int) (s:ByteArray) (aa:Option Addr) (al ac:Nat) (ta:Option Addr) (tl tc:Nat) (na:Option Addr) (nl nc:Nat):Prop :=
 w.cell? ⟨g,o,none⟩=some (.i k)/\w.cell? ⟨g,o+1,none⟩=some (.i n)/\w.cell? ⟨g,o+2,none⟩=some (.i a)/\w.cell? ⟨g,o+3,none⟩=some (.string s)/\w.cell? ⟨g,o+4,none⟩=some (.slice aa al ac)/\w.cell? ⟨g,o+5,none⟩=some (.slice ta tl tc)/\w.cell? ⟨g,o+6,none⟩=some (.slice na nl nc)
def C7.keep{w w':World}{r:Option Nat}{g o:Nat}{k n a:Int}{s:ByteArray}{d:Option Addr}{al ac:Nat}{ta:Option Addr}{tl tc:Nat}{na:Option Addr}{e nc:Nat}(h:C7 w g o k n a s d al ac ta tl tc na e nc)(b:w.grownBy w' r)(c:some g≠r):C7 w' g o k n a s d al ac ta tl tc na e nc :=
 ⟨kc h.1 b c,kc h.2.1 b c,kc h.2.2.1 b c,kc h.2.2.2.1 b c,kc h.2.2.2.2.1 b c,kc h.2.2.2.2.2.1 b c,kc h.2.2.2.2.2.2 b c⟩
def Xe{P:Program}{d:Func}{Q:Ending->World->Prop}{A:Act}{w:World}{R:Nat}{T:TypeId}{x0 e f g h j l:Value}{k n a:Int}{s:ByteArray}{b:Option Addr}{al ac:Nat}{ta:Option Addr}{tl tc:Nat}{na:Option Addr}{c nc:Nat}
 (hres:∀w':World,w'.cell? ⟨R,0,none⟩=some (.i k)/\w'.cell? ⟨R,1,none⟩=some (.i n)/\w'.cell? ⟨R,2,none⟩=some (.i a)/\w'.cell? ⟨R,3,none⟩=some (.string s)/\w'.cell? ⟨R,4,none⟩=some (.slice b al ac)/\w'.cell? ⟨R,5,none⟩=some (.slice ta tl tc)/\w'.cell? ⟨R,6,none⟩=some (.slice na c nc)->(results d A.tmps).run P w' =.ok (bg k n a s b al ac ta tl tc na c nc) w')
 (hd:A.defers=[]) (hb:w.heap[R]?=some (.cells #[x0,e,f,g,h,j,l] T (0,0))) (hQ:∀w',w.grownBy w' (some R)->Q (.returned (bg k n a s b al ac ta tl tc na c nc)) w') :
 bodyPost P d Q .ret A (qW w R (.i k) (.i n) (.i a) (.string s) (.slice b al ac) (.slice ta tl tc) (.slice na c nc)) :=
 zv (hres _ (cO (wN hb _ _ _ _ _ _ _))) hd (hQ _ (zy _ _ _ _ _ _ _ _ _))
def DT{α:Type}{l:List α}{n:Nat}(h:l.length=n+1):∃r x,l=r++[x]/\r.length=n:=by refine⟨l.dropLast,l.getLast (by intro e;subst e;simp at h),(qb4 _).symm,by simp[h]⟩
def rY{us:List Value}{n:Nat}(h:∀u∈us,(nodeCells u).length=n):(flat us).length=us.length*n:=by
 induction us with
 | nil=>simp[flat]
 | cons u us a=>simp only[flat,qd5,qS,jn]at a|-;rw[a λv b=>h v (by simp[b]),h u ot,jb0];omega
def sU.top{l:List Va}{x:Va}{v:Value}{us:List Value}(h:sU B O w (l++[x]) v us):∃g cap us' k n a s aa al ac ta tl tc na nl nc,v =.slice (some ⟨g,0,none⟩) (l.length+1) cap/\(l.length+1<=cap/\cap<=maxLen)/\us=us'++[bg k n a s aa al ac ta tl tc na nl nc]/\aA (λb=>¬O b) w x (bg k n a s aa al ac ta tl tc na nl nc) /\
 C7 w g (l.length*7) k n a s aa al ac ta tl tc na nl nc/\sU B O w l (.slice (some ⟨g,0,none⟩) l.length cap) us':=by
 have r:=h.len;simp only[qS,jn,xT]at r;obtain⟨us',u,rfl,c⟩:=DT r;have z:=h.lies l.length x u ot (by rw[<-c];simp);have f:=h.own;obtain⟨k,n,a,s,aa,al,ac,ta,tl,tc,na,nl,nc,rfl⟩:=z.bg;have C:∀u∈us',(nodeCells u).length=7:=λu E=>by
  obtain⟨i,q,rfl⟩:=ye E;have o:i<l.length:=od
  obtain⟨k,n,a,s,aa,al,ac,ta,tl,tc,na,nl,nc,e⟩:=(h.lies i l[i] us'[i] (by rw[jt o,qt o]) (by rw[jt q,qt q])).bg;rw[e];rfl
 have m:=rY C;unfold dF at f;rw[bV,qS,yW,c]at f;obtain⟨g,cap,rfl,_⟩:=BO f (by rintro rfl;have:=f.2;simp at this);have D:=QX f;refine⟨g,cap,us',k,n,a,s,aa,al,ac,ta,tl,tc,na,nl,nc,rfl,D,rfl,z,?_,⟨?_,c,λi y v p t=>?_,λA e=>h.mine A e⟩⟩
 .have d:∀j y,(nodeCells (bg k n a s aa al ac ta tl tc na nl nc))[j]?=some y->w.cell? ⟨g,l.length*7+j,none⟩=some y:=λj y p=>iJ f (by rw[m,c]) j y (by simpa[flat]using p);exact⟨d 0 _ rfl,d 1 _ rfl,d 2 _ rfl,d 3 _ rfl,d 4 _ rfl,d 5 _ rfl,d 6 _ rfl⟩
 .unfold dF;rw[c];exact uF f (by rw[m,c])
 .exact h.lies i y v (by rw[jt (jj.1 p).1];exact p) (by rw[jt (jj.1 t).1];exact t)
def Yi (B:Nat) (O:Nat->Prop) (w:World) (mb:Nat) (en:En) (aC:Int) (x:Va) (m:Ma) (e:Ending) (w':World):Prop:=∃v,e =.returned v/\aA (λb=>¬O b) w' x v/\dB O w O w'/\dm B O w' mb en aC m
def Yh (B:Nat) (O:Nat->Prop) (w:World) (x:Va) (mb:Nat) (en:En) (aC:Int) (m:Ma) (k n a:Int) (s:ByteArray) (aa:Option Addr) (al ac:Nat) (ta:Option Addr) (tl tc:Nat) (na:Option Addr) (nl nc:Nat) (fv:Value) (fs:List Value) (e:Ending) (w':World):Prop:=∃v,e =.returned v/\aA (λb=>¬O b) w' x v/\dB O w O w'/\∃sv us,bU B O w' mb en aC m k n a s aa al ac ta tl tc na nl nc sv fv us fs
def Yj (B:Nat) (O:Nat->Prop) (w:World) (x:Va) (mb:Nat) (en:En) (aC:Int) (m:Ma) (L:Nat) (st:List Va) (k n a:Int) (s:ByteArray) (aa:Option Addr) (al ac:Nat) (ta:Option Addr) (tl tc:Nat) (na:Option Addr) (nl nc:Nat) (fv:Value) (fs:List Value) (e:Ending) (w':World):Prop:=∃v,e =.returned v/\aA (λb=>¬O b) w' x v/\dB O w O w'/\∃g cap us,(L+1<=cap/\cap<=maxLen)/\bU B O w' mb en aC { m with st:=st } k n a s aa al ac ta tl tc na nl nc (.slice (some ⟨g,0,none⟩) L cap) fv us fs
def Cv{x:Va}{st:List Va}{k n a:Int}{s:ByteArray}{J:Option Addr}{al ac:Nat}{ta:Option Addr}{tl tc:Nat}{na:Option Addr}{T nc:Nat}{sv N:Value}{us M:List Value}(h:bU B O w mb en aC m k n a s J al ac ta tl tc na T nc sv N us M)(R:m.st=x::st):Calls prog 118 #[.pointer (some ⟨mb,0,none⟩)] w (Yj B O w x mb en aC m st.length st k n a s J al ac ta tl tc na T nc N M):=by
 have u:=h.jL;rw[R,qb0]at u;obtain⟨g,y,aq,k1,n1,a1,s1,W,Y,X,an,fE,ao,ai,ak,aj,rfl,c,rfl,S,d,f⟩:=u.top;rw[ue]at c d f h;have A:=jh c;generalize st.length=L at *;have ah:wrap64 (L:Int)=L:=by unfold maxLen at c;unfold wrap64;omega
 obtain⟨c,_⟩:=c;have p:=aK (w:=w) (.cells #[.i 0,.i 0,.i 0,.string ⟨#[]⟩,.n0,.n0,.n0] 36);obtain⟨HM,t,V,I⟩:=JT (h.grow p) h S f;have ae:=h.high _ h.mine.1;have ad:g<w.heap.size:=h.high g (h.jL.mine g rfl);obtain⟨U,D,C⟩:=we (d.keep p ot) (qT w (.cells #[.i 0,.i 0,.i 0,.string ⟨#[]⟩,.n0,.n0,.n0] 36)) p;clear h u S f d R p;go_enter func118,ntmps118
 go_upto_region 1 with (fail)
 generalize w.alloc _=j at *;have K:=λ(w':World) (h:j.grownBy w' (some w.heap.size))=>And.intro (iM (kb HM.blk h oB)) (U.keep h oB);unfold C7 at K;have ab:j.grownBy j (some w.heap.size):=bM _ _;have hA:=λ(w':World) (o:Obj) (h:j.grownBy w' (some w.heap.size))=>fF h (kL (aK o));have K2:=λ(w':World) (h:j.grownBy w' (some mb))=>And.intro (cO (kb D h oB)) (qD (kb D h oB));have E:j.grownBy j (some mb):=bM _ _;have hA2:=λ(w':World) (o:Obj) (h:j.grownBy w' (some mb))=>fF h (kL (aK o));have F:=λ(w':World) (o:Nat) (v:Value) (h:j.grownBy w' (some mb))=>dY h o none v;go_wp2_with fail;refine Xe (λw' h=>by simp[results,results118,go_sem,h,bg]) rfl (x0:=.i 0) (kb D (F _ _ _ (hA2 _ _ E)) oB) λw' Q=>?_;have l:w.grownBy w' (some mb):=aG (fF (kL (aJ C (aK _))) (dY (bM _ _) _ _ _)) Q (qv _);have z:=dB.ofRow (O:=O) l (λq e=>by cases e;exact t.mine.1);have r:=kb (nG (HM.grow (aK _)).blk (.slice (some ⟨g,0,none⟩) L y)).1 Q oB;refine⟨_,rfl,z.lies V,z,g,y,_,A,t.stack z r (I.kept z λq e=>⟨I.mine q e,l.block q (by cases e;omega) (λZ=>?_)⟩) (.inl rfl) (λq H _=>H) (λq H G _=>l.block q (t.high q H) (by simpa using G)) (λb P=>?_)⟩
 .cases Z;exact aD t.jL.own t.blk ov e.symm
 .by_cases e:b=mb
  .subst e;exact⟨_,_,r⟩
  .rw[l.block b (t.out.high b P) (by simpa using e)];exact t.cells b P
def yA{x:Va}{st:List Va}{k n a:Int}{s:ByteArray}{b:Option Addr}{al ac:Nat}{ta:Option Addr}{tl tc:Nat}{na:Option Addr}{f nc:Nat}{r d:Value}{us c:List Value}(h:bU B O w mb en aC m k n a s b al ac ta tl tc na f nc r d us c)(q:m.st=x::st):Calls prog 118 #[.pointer (some ⟨mb,0,none⟩)] w (Yh B O w x mb en aC { m with st:=st } k n a s b al ac ta tl tc na f nc d c):=by refine (Cv h q).mono ?_;rintro e w' ⟨v,j,l,o,g,i,us,_,p⟩;exact⟨v,j,l,o,_,_,p⟩
def yB{x:Va}{st:List Va}(h:dm B O w mb en aC m)(g:m.st=x::st):Calls prog 118 #[.pointer (some ⟨mb,0,none⟩)] w (Yi B O w mb en aC x { m with st:=st }):=by obtain⟨k,n,a,s,aa,al,ac,ta,tl,tc,na,nl,nc,sv,fv,us,fs,h⟩:=h;refine (yA h g).mono ?_;rintro e w' ⟨v,b,c,d,sv,us,f⟩;exact⟨v,b,c,d,_,_,_,_,_,_,_,_,_,_,_,_,_,_,_,_,_,f⟩
def Src (O:Nat->Prop) (w:World) (l:List Va) (xv:Value):Prop:=∃us:List Value,gZ w xv us.length (flat us)/\us.length=l.length/\∀(i:Nat) (x:Va) (u:Value),l[i]?=some x->us[i]?=some u->aA (λb=>¬O b) w x u
def Src.row{l:List Va}{a:Option Addr}{V:Nat->Value}{c:Nat}(h:aT (λb=>¬O b) w l a V):Src O w l (.slice a l.length c):=by
 refine⟨(List.range l.length).map V,?_,ot,λi x u m d=>?_⟩
 .have t:∀u∈(List.range l.length).map V,(nodeCells u).length=7:=λu d=>by
   simp only[qa7,List.mem_range]at d;obtain⟨i,f,rfl⟩:=d;obtain⟨k,n,a,s,aa,al,ac,ta,tl,tc,na,nl,nc,e⟩:=(h.2.2 i f).bg;rw[e];rfl
  have g:=rY t;simp only[qg7,List.length_range]at g|-
  cases a with
  | none =>
   left;have p:l.length=0:=by
    cases I:l.length with
    | zero=>rfl
    | succ q=>obtain⟨b,o,e,_⟩:=h.2.1 0 od;cases e
   exact⟨c,by rw[p],p,ju (by rw[g,p])⟩
  | some v =>
   right;refine⟨v,c,rfl,λj u d=>?_⟩;have H:j<l.length*7:=by have:=(jj.1 d).1;omega
   obtain⟨i,r,z,rfl⟩:∃i r,r<7/\j=i*7+r:=⟨j / 7,j % 7,Nat.mod_lt _ od,od⟩;have f:i<l.length:=od
   obtain⟨b,o,e,_,k,n,a,s,aa,al,ac,ta,tl,tc,na,nl,nc,y,A,B,C,D,E,F,G⟩:=h.2.1 i f;cases e;rw[flatV_get _ t i r (V i) (by simp[f]) z,y]at d;rw[gI,<-qe0];rcases (show r=0\/r=1\/r=2\/r=3\/r=4\/r=5\/r=6 by omega)with rfl|rfl|rfl|rfl|rfl|rfl|rfl<;>(simp only[bg,nodeCells,kl,yd,qk]at d;subst d;assumption)
 .have f:=(jj.1 m).1;simp[f]at d;subst d;have:=h.2.2 i f;rw[qt f]at m;simp only[qk]at m;rw[<-m];exact this
def Src.grow{w':World}{l:List Va}{xv:Value}(h:Src O w l xv)(d:w.grownBy w' none):Src O w' l xv:=by
 obtain⟨us,a,g,k⟩:=h;refine⟨us,?_,g,λi x u m b=>(dB.grow (O:=O) d).lies (k i x u m b)⟩;rcases a with a|⟨f,c,e,a⟩
 .exact .inl a
 .exact .inr ⟨f,c,e,λj u b=>by have:=a j u b;exact (qn (d.block _ (kd w _ this) ot)).trans this⟩
def K8 (B:Nat) (O:Nat->Prop) (w:World) (mb:Nat) (en:En) (aC:Int) (m:Ma) (e:Ending) (w':World):Prop:=e =.returned (.tuple #[])/\∃O',dB O w O' w'/\dm B O' w' mb en aC m
def lL{us:List Value}(h:∀u∈us,∃k n a s aa al ac ta tl tc na nl nc,u=bg k n a s aa al ac ta tl tc na nl nc):(flat us).length=us.length*7/\∀y∈flat us,y.oneCell'=true:=by
 refine⟨rY λu c=>?_,λy b=>?_⟩
 .obtain⟨k,n,a,s,aa,al,ac,ta,tl,tc,na,nl,nc,e⟩:=h u c;rw[e];rfl
 .simp only[flat,jh2]at b;obtain⟨u,c,b⟩:=b;obtain⟨k,n,a,s,aa,al,ac,ta,tl,tc,na,nl,nc,e⟩:=h u c;rw[e]at b;simp[bg,nodeCells]at b;rcases b with rfl|rfl|rfl|rfl|rfl|rfl|rfl<;>rfl
def mO{l:List Va}{us:List Value}(e:us.length=l.length)(h:∀(i:Nat) (x:Va) (u:Value),l[i]?=some x->us[i]?=some u->aA (λb=>¬O b) w x u):∀u∈us,∃k n a s aa al ac ta tl tc na nl nc,u=bg k n a s aa al ac ta tl tc na nl nc:=λu d=>by obtain⟨i,c,rfl⟩:=ye d;exact (h i l[i] us[i] (qt od) (qt c)).bg
def WU{c:Array Oper}{b:List Oper}{o:Oper}{a:Act}{Q:Exit->Act->World->Prop}(g:o.guard=none)(s x:Operand)(C:o.op =.call { callee:=.builtin .append,args:=#[s,x],argTypes:=#[28,28] })
 {v xv:Value} (hs:a.eval s=v) (hx:a.eval x=xv) {l0 l:List Va} {us:List Value} (h:sU B O w l0 v us) (hsrc:Src O w l xv) (hB:B<=w.heap.size) (hlen:l0.length+l.length<=100000000)
 (hk:∀v' us' w',sU B (qx O v v') w' (l0++l) v' us'->Gr w v w' v'->dB O w (qx O v v') w'->wpList prog c Q b (a.put o.dst v') w'):wpList prog c Q (o::b) a w:=by
 obtain⟨k,A,m,n⟩:=hsrc;have p:=lL (mO m n);refine ed g s x 28 C B 36 underlying28 mr rfl ov v us.length (flat us) hs h.own xv k.length (flat k) hx p.1 A p.2 (by have:=h.len;unfold maxLen;omega) (by have:=h.len;omega) hB λv' w' j r _=>?_;have z:=dB.gr r h.mine;refine hk v' (us++k) w' ⟨by unfold dF;rw[qS,bV];exact j,by simp[h.len,m],λi y u f d=>z.lies ?_,λq e=>.inr e⟩ r z
 by_cases t:i<l0.length
 .rw[jt t]at f;rw[jt (by rw[h.len];exact t)]at d;exact h.lies i y u f d
 .rw[js od]at f;rw[js (by rw[h.len];omega),h.len]at d;exact n _ y u f d
def nX{e:TypeId}{size n:Nat}{v:Value}{xs:List Value}(h:w.ownsRow B e size v n xs):∃a c,v =.slice a n c:=by
 rcases h.2 with⟨rfl,rfl⟩|⟨g,b,d,rfl,_⟩
 .exact⟨_,_,rfl⟩
 .exact⟨_,_,rfl⟩
def Yf (B:Nat) (O:Nat->Prop) (w:World) (mb:Nat) (sv:Value) (l:List Va) (e:Ending) (w':World):Prop:=e =.returned (.tuple #[])/\∃v' us' w1,sU B (qx O sv v') w1 l v' us'/\Gr w sv w1 v'/\dB O w (qx O sv v') w1/\w'=w1.setCell ⟨mb,14,none⟩ v'
def G9{l p:List Va}{xv:Value}{g z:Int}{k n a:Int}{s:ByteArray}{A:Option Addr}{al ac:Nat}{ta:Option Addr}{tl tc:Nat}{na:Option Addr}{E nc:Nat}{i C:Value}{us:List Value}(t:w.heap[mb]?=some (.cells (yG en aC g z k n a s A al ac ta tl tc na E nc i C) 65))(u:sU B O w p i us)(c:Src O w l xv)(r:B<=w.heap.size)(b:p.length+l.length<=100000000):Calls prog 115 #[.pointer (some ⟨mb,0,none⟩),xv] w (Yf B O w mb i (p++l)):=by have HM:=jh t;have q:=jh u;have K:=λ(w':World) (h:w.grownBy w' none)=>iM (l5 HM h);have D:w.grownBy w none:=bM _ _;obtain⟨y,HL,x⟩:=we c b r;clear t u c b r;go_enter func115,ntmps115;go_wp2_with (at_builtin;refine WU (v:=i) (xv:=xv) rfl _ _ rfl rfl rfl q y x HL ?_;intro I F w' e d f;obtain⟨G,H,rfl⟩:=nX e.own;have o:=jh e;have m:=jh d;have j:=jh f;have J:=iM (kb HM d.1 (aD q.own HM ov));clear e d f);refine zv (v:=.tuple #[]) (by simp[results,results115,go_sem]) rfl ?_;exact⟨rfl,_,_,_,o,m,j,rfl⟩
def Yg (B:Nat) (O:Nat->Prop) (w:World) (mb:Nat) (en:En) (aC:Int) (m:Ma) (k n a:Int) (s:ByteArray) (aa:Option Addr) (al ac:Nat) (ta:Option Addr) (tl tc:Nat) (na:Option Addr) (nl nc:Nat) (fv:Value) (fs:List Value) (e:Ending) (w':World):Prop:=e =.returned (.tuple #[])/\∃O',dB O w O' w'/\∃sv us,bU B O' w' mb en aC m k n a s aa al ac ta tl tc na nl nc sv fv us fs
def bU.Fv{st:List Va}{k n a:Int}{s:ByteArray}{z:Option Addr}{al ac:Nat}{ta:Option Addr}{tl tc:Nat}{na:Option Addr}{F nc:Nat}{j C v':Value}{us A us':List Value}{w':World}(c:bU B O w mb en aC m k n a s z al ac ta tl tc na F nc j C us A)(x:sU B (qx O j v') w' st.reverse v' us')(p:Gr w j w' v')(hF:dB O w (qx O j v') w') :
 dB O w (qx O j v') (w'.setCell ⟨mb,14,none⟩ v')/\bU B (qx O j v') (w'.setCell ⟨mb,14,none⟩ v') mb en aC { m with st:=st } k n a s z al ac ta tl tc na F nc v' C us' A:=by
 have d:w'.grownBy (w'.setCell ⟨mb,14,none⟩ v') (some mb):=dY (bM _ _) _ _ _;have u:dB (qx O j v') w' (qx O j v') (w'.setCell ⟨mb,14,none⟩ v'):=dB.ofRow d (λq e=>by cases e;exact .inl ⟨c.mine.1,λe=>aD c.jL.own c.blk ov e.symm⟩);have D:=hF.trans u;have h:=(nG (kb c.blk p.1 (aD c.jL.own c.blk ov)) v').1;have y:∀q,v'.ownBlock=some q->q≠mb:=λq e r=>by
  subst r;rcases p.2 with o|⟨g,o,E⟩
  .exact aD c.jL.own c.blk ov (by rw[<-o,e])
  .rw[e]at o;cases o;have:=c.high _ c.mine.1;omega
 refine⟨D,c.stack D h (us':=us') ?_ ?_ (λq i l=>.inl ⟨i,l⟩) (λq i l v=>(d.block q (jz (c.high q i) p.1.size) (by simpa using l)).trans (p.1.block q (c.high q i) (λe=>v e.symm))) (λb f=>?_)⟩
 .exact x.kept u λq e=>⟨.inr e,d.block q (kp x.own q e).2 (by simpa using y q e)⟩
 .rcases p.2 with e|⟨g,e,E⟩
  .exact .inl e
  .exact .inr (.inr ⟨g,e,E⟩)
 .by_cases e:b=mb
  .subst e;exact⟨_,_,h⟩
  .have t:∃cs e,w'.heap[b]?=some (.cells cs e):=by
    rcases f with f|f
    .rw[p.1.block b (c.high b f.1) (λo=>f.2 o.symm)];exact c.cells b f.1
    .rcases x.own.2 with⟨r,_⟩|⟨g,G,H,r,_,i,_⟩
     .rw[r]at f;cases f
     .rw[r]at f;cases f;exact⟨_,_,i⟩
   rw[d.block b (by obtain⟨cs,q,i⟩:=t;exact (qq.1 i).1) (by simpa using e)];exact t
def BG{l:List Va}{xv:Value}{k n a:Int}{s:ByteArray}{i:Option Addr}{al ac:Nat}{ta:Option Addr}{tl tc:Nat}{na:Option Addr}{p nc:Nat}{q o:Value}{us j:List Value}(h:bU B O w mb en aC m k n a s i al ac ta tl tc na p nc q o us j)(c:Src O w l xv)(b:m.st.length+l.length<=100000000):Calls prog 115 #[.pointer (some ⟨mb,0,none⟩),xv] w (Yg B O w mb en aC { m with st:=l.reverse++m.st } k n a s i al ac ta tl tc na p nc o j):=by refine (G9 h.blk h.jL c (by have:=h.low _ h.mine.1;have:=h.high _ h.mine.1;omega) (by rw[ue];exact b)).mono ?_;rintro e u ⟨rfl,t,r,w',g,f,d,rfl⟩;have:=h.Fv (st:=l.reverse++m.st) (by rw[qe7,je2];exact g) f d;exact⟨rfl,_,this.1,_,_,this.2⟩
def Ha{l:List Va}{xv:Value}(h:dm B O w mb en aC m)(c:Src O w l xv)(b:m.st.length+l.length<=100000000):Calls prog 115 #[.pointer (some ⟨mb,0,none⟩),xv] w (K8 B O w mb en aC { m with st:=l.reverse++m.st }):=by obtain⟨k,n,a,s,aa,al,ac,ta,tl,tc,na,nl,nc,sv,fv,us,fs,h⟩:=h;refine (BG h c b).mono ?_;rintro e w' ⟨d,O',f,sv,us,g⟩;exact⟨d,O',f,_,_,_,_,_,_,_,_,_,_,_,_,_,_,_,_,_,g⟩
end
open Go.ChangeShapes Go.WideShapes Go.ChangeAt Go.RowKit Go.Shelf
set_option maxHeartbeats 2000000
attribute [local go_sem] Oper.semAt_some
def YP (Bs b:Nat) (W W':World):Prop:=∀o,W'.cell? ⟨Bs,o,none⟩=W.cell? ⟨Bs,o,none⟩/\W'.cell? ⟨b,o,none⟩=W.cell? ⟨b,o,none⟩
section
variable {α:Type}{encs:α->Array Value}
def PX(F:Fence)(n:Nat)(h1:F.fn 210)(C:F.round=none)(hn:1<=n)(l w b u cap:Nat)(V:Nat->Value)(xs:List α)(P:xs.length<=100000000)(t:∀r (h:r<xs.length),encs xs[r]=#[.i ((xs.length - 1 - r:Nat):Int),V (xs.length - 1 - r)])(J D:List α->World->Prop)
 (hY:∀c x W,J c W->c.length<xs.length->YieldAt F (n - 1) prog l (encs x) W λe d=>(e =.returned (.bool true)/\J (c++[x]) d/\YP w b W d)\/(e =.returned (.bool false)/\D (c++[x]) d))
 (W:World) (hBs:W.cell? ⟨w,0,none⟩=some (.slice (some ⟨b,u,none⟩) xs.length cap)) (hc:∀j,j<xs.length->AX (λ_=>True) W (some ⟨b,u,none⟩) j (V j)) (h0:J [] W) :
 CallsIn F n prog 210 #[.func (.yield l) #[] #[],.pointer (some ⟨w,0,none⟩)] W λe d=>(∃v,e =.returned v)/\((∃ys,ys=xs/\J ys d)\/(∃c,(∃k,k<=xs.length/\c=xs.take k)/\D c d)):=by
 refine callsIn_of_wp func210 rfl h1 ?_ C;simp only[ntmps210,je1,jn,xT,Nat.reduceAdd,Nat.reduceSub,jh1,jh0,List.push_toArray,List.append_toArray,qf0,qd2];have ad:wrap64 ((xs.length:Int) - 1)=(xs.length:Int) - 1:=Ys
 gi_wp2
 gi_loopw [3] (λi wr=>∃k:Nat,k<=xs.length/\i =.i ((xs.length:Int) - 1 - k)/\J (xs.take k) wr/\YP w b W wr) (λi _=>(intOf i+1).toNat)
 case atStart=>exact⟨0,kB _,ot,h0,λ_=>⟨rfl,rfl⟩⟩
 case round =>
  obtain⟨k,hk,rfl,f,a⟩:=hrel;have O:=(a 0).1.trans hBs
  by_cases s:k<xs.length
  .obtain⟨fn,Q,y,E,z,hR⟩:=hY (xs.take k) xs[k] wr f vi;rw[t k s]at z;obtain⟨bb,oo,eb,_,k1,n1,a1,s1,aa,al,ac,ta,tl,tc,na,nl,nc,e2,G,H,I,K,L,M,N⟩:=hc (xs.length - 1 - k) od;cases eb;rw[e2]at z;unfold bg at z;have R:=(a _).2.trans G;have S:=(a _).2.trans H;have T:=(a _).2.trans I;have U:=(a _).2.trans K;have X:=(a _).2.trans L;have Y:=(a _).2.trans M;have Z:=(a _).2.trans N;obtain⟨q,hq⟩:∃q:Nat,xs.length - 1 - k=q:=⟨_,rfl⟩;have B:(xs.length:Int) - 1 - k=(q:Int):=by omega
   have ab:q<xs.length:=od
   rw[hq]at z R S T U X Y Z;rw[B];clear G H I K L M N hc t hBs;have ae:wrap64 ((q:Int) - 1)=(q:Int) - 1:=Ys
   have m:xs.take (k+1)=xs.take k++[xs[k]]:=by rw[List.take_add_one,qt s];rfl
   gi_wp2
   refine hR.mono ?_;rintro e W3 (⟨rfl,A,p⟩|⟨rfl,g⟩)
   .gi_wp2
    go_roundw
    case rel=>exact⟨k+1,od,by congr 1;omega,by rw[m];exact A,λo=>⟨(p o).1.trans (a o).1,(p o).2.trans (a o).2⟩⟩
    case measure=>simp[intOf]
   .gi_wp2
    refine zv (results_none rfl _ _ _) rfl ?_;exact⟨⟨_,rfl⟩,.inr ⟨_,⟨k+1,od,m.symm⟩,g⟩⟩
  .obtain rfl:k=xs.length:=by omega
   gi_wp2
   go_end0
   exact⟨⟨_,rfl⟩,.inl ⟨_,rfl,by simpa using f⟩⟩
def PW(F:Fence)(n:Nat)(j:F.fn 210)(d:F.round=none)(l f c:Nat)(a:Option Addr)(J:List α->World->Prop)(W:World)(k:W.cell? ⟨f,0,none⟩=some (.slice a 0 c))(h:J [] W) :
 CallsIn F n prog 210 #[.func (.yield l) #[] #[],.pointer (some ⟨f,0,none⟩)] W λe g=>(∃v,e =.returned v)/\J [] g:=by
 refine callsIn_of_wp func210 rfl j ?_ d;simp only[ntmps210,je1,jn,xT,Nat.reduceAdd,Nat.reduceSub,jh1,jh0,List.push_toArray,List.append_toArray,qf0,qd2]
 gi_wp2
 gi_loopw [3] (λi wr=>i =.i (-1)/\J [] wr) (λ_ _=>0)
 case atStart=>exact⟨rfl,h⟩
 case round =>
  obtain⟨rfl,b⟩:=hrel
  gi_wp2
  go_end0
  exact⟨⟨_,rfl⟩,b⟩
def TJ(F:Fence)(n:Nat)(d:F.fn 191)(c:F.round=none)(a:Option Addr)(b cap:Nat)(w:World) :
 CallsIn F n prog 191 #[.slice a b cap] w λe w'=>e =.returned (.func (.func 210) #[] #[.pointer (some ⟨w.heap.size,0,none⟩)])/\w'=w.alloc (.cells #[.slice a b cap] 28):=by
 refine callsIn_of_wp func191 rfl d ?_ c;simp only[ntmps191,je1,jn,xT,Nat.reduceAdd,Nat.reduceSub,jh1,jh0,List.push_toArray,List.append_toArray,qf0,qd2]
 gi_wp2
 go_ret;exact⟨rfl,rfl⟩
def Je(F:Fence)(n:Nat)(z:F.fn 210)(m:F.round=none)(E:1<=n)(d b c:Nat)(a:Option Addr)(V:Nat->Value)(xs:List α)(g:xs.length<=100000000)(u:∀r (h:r<xs.length),encs xs[r]=#[.i ((xs.length - 1 - r:Nat):Int),V (xs.length - 1 - r)])
 (w:World) (hb:xs≠[]->∀q o,a=some ⟨q,o,none⟩->b=q) (hsz:d<w.heap.size) (hBs:w.cell? ⟨d,0,none⟩=some (.slice a xs.length c)) (hc:∀j,j<xs.length->AX (λ_=>True) w a j (V j)) :
 SeqStopsK F n prog 210 #[.pointer (some ⟨d,0,none⟩)] encs (YP d b) (λys=>ys=xs) (λv=>∃k,k<=xs.length/\v=xs.take k) xs.length w:=λl J B W A _ _ C y=>by
 have f:=(A.cell (p:=⟨d,0,none⟩) hsz).trans hBs
 cases xs with
 | nil=>exact (PW F n z m l d c a J W f y).mono λe G ⟨D,s⟩=>⟨D,.inl ⟨_,rfl,s⟩⟩
 | cons x r =>
  obtain⟨q,o,rfl,_⟩:=hc 0 ot;have:=hb ot q o rfl;subst this;exact PX F n z m E l d b o c V (x::r) g u J B C W f (λj s=>(hc j s).same λq o _ t=>A.cell (p:=⟨q,o,none⟩) t) y
end
set_option maxHeartbeats 400000
attribute [local go_sem] Oper.semAt_some
abbrev Item (O:Nat->Prop) (w:World):={ p:Nat×Va×Value // aA (λb=>¬O b) w p.2.1 p.2.2/\p.2.1.size<=20000000 }
def encI {O:Nat->Prop}{w:World}(x:Item O w):Array Value:=#[.i (x.1.1:Int),x.1.2.2]
def vQ {O:Nat->Prop}{w:World}(l:List (Item O w)):List Va:=l.map λx=>x.1.2.1
def Ag{α:Type}{n:Nat}{b:World->World->Prop}{I:List α->World->Prop}{c:Code->List α->World->Prop}{xs:List α}{W a:World}{A:Act}(d:KeepsFrom n W a)(e:b W a)(f:I xs a):ownPostG n b I c xs W .normal A a:=⟨d,e,f⟩
def OL{O:Nat->Prop}{w:World}(l:List (Item O w))(x:Item O w):vQ (l++[x])=vQ l++[x.1.2.1]:=by unfold vQ;rw[qc2];rfl
def dB.zB{O c:Nat->Prop}{w A A':World}{row:Option Nat}(h:dB O w c A)(a:A.grownBy A' row)(g:∀r,row=some r->w.heap.size<=r):dB O w c A' :=
 ⟨a.os.trans h.os,a.tape.trans h.tape,a.output.trans h.output,kh h.size a.size,λb d f=>(a.block b (jz d h.size) (λe=>by have:=g b e.symm;omega)).trans (h.block b d f),h.new⟩
def Src.one{O:Nat->Prop}{w:World}{y:Va}{k n a:Int}{s:ByteArray}{c:Option Addr}{al ac:Nat}{ta:Option Addr}{tl tc:Nat}{na:Option Addr}{d nc:Nat}{T:TypeId}(h:aA (λb=>¬O b) w y (bg k n a s c al ac ta tl tc na d nc)) :
 Src O (w.alloc (.cells #[.i k,.i n,.i a,.string s,.slice c al ac,.slice ta tl tc,.slice na d nc] T)) [y] (.slice (some ⟨w.heap.size,0,none⟩) 1 1):=by
 refine⟨[bg k n a s c al ac ta tl tc na d nc],?_,rfl,λi x u e f=>?_⟩
 .have:=gZ.new w T #[.i k,.i n,.i a,.string s,.slice c al ac,.slice ta tl tc,.slice na d nc] 1 1;simpa[flat,nodeCells,bg]using this
 .cases i with
  | zero =>
   simp only[kl,qk]at e f;subst e;subst f;exact (dB.grow (O:=O) (aK _)).lies h
  | succ i=>simp at e
def qy{w:World}{b:Nat}{T:TypeId}{x:Value}(h:w.heap[b]?=some (.cells #[x] T)):w.cell? ⟨b,0,none⟩=some x:=by simp[World.cell?,h]
def We{w:World}{b:Nat}{T:TypeId}{x:Value}(h:w.heap[b]?=some (.cells #[x] T)):w.frozen? ⟨b,0,none⟩=false:=by simp[World.frozen?,h]
def LP{w:World}{b:Nat}{T:TypeId}{x:Value}(h:w.heap[b]?=some (.cells #[x] T)):¬fe w b:=by rintro⟨cs,e,d,a,c⟩;rw[h]at a;cases a;simp at c
def NB{O c:Nat->Prop}{X Y:World}(h:dB O X c Y)(f:∀b,O b->∃cs e,X.heap[b]?=some (.cells cs e))(n:Nat):KeepsFrom n X Y :=
 ⟨h.size,λk o _ a g=>(h.block k (qq.1 a).1 (λd=>by obtain⟨cs,e,i⟩:=f k d;rw[i]at a;cases a;cases g)).trans a⟩
section
variable {B:Nat}{O:Nat->Prop}{w:World}{mb:Nat}{en:En}{aC:Int}{m:Ma}
def Fh{l:List Va}{I:Option Addr}{c:Nat}{V:Nat->Value}(h:dm B O w mb en aC m)(hl:aT (λb=>¬O b) w l I V)(hz:vsizes l<=20000000)(aO:m.st.length+l.length<=100000000):Calls prog 154 #[.pointer (some ⟨mb,0,none⟩),.slice I l.length c] w (jK B O w mb en aC (oH m l)):=by
 refine (callsIn_wide (n:=5)).1 ?_;refine callsIn_of_wp_marks func154 rfl trivial ?_ rfl;simp only[ntmps154,je1,jn,xT,Nat.reduceAdd,Nat.reduceSub,jh1,jh0,List.push_toArray,List.append_toArray,qf0,qd2]
 gi_wp2_with (refine⟨trivial,?_⟩;gi_at_call 191;refine (TJ Fence.wide _ trivial rfl _ _ _ _).mono ?_;rintro e w' ⟨rfl,rfl⟩)
 obtain⟨p,z⟩:∃p,((w.alloc (.cells #[.pointer (some ⟨mb,0,none⟩)] 85)).alloc (.cells #[.i 0] 31)).alloc (.cells #[.slice I l.length c] 28)=p:=⟨_,rfl⟩;rw[z];have F:w.grownBy p none:=by rw[<-z];exact aJ (aJ (aK _) (aK _)) (aK _)
 have ai:p.heap.size=w.heap.size+3:=by rw[<-z];simp
 have hA2:p.cell? ⟨w.heap.size,0,none⟩=some (.pointer (some ⟨mb,0,none⟩)):=by rw[<-z];exact JJ (aJ (aK _) (aK _)) (qy (qT w _))
 have hA4:p.heap[w.heap.size+1]?=some (.cells #[.i 0] 31):=by rw[<-z];have:=qT (w.alloc (.cells #[.pointer (some ⟨mb,0,none⟩)] 85)) (.cells #[.i 0] 31);rw[yb]at this;exact l5 this (aK _)
 have ak:p.cell? ⟨w.heap.size+1+1,0,none⟩=some (.slice I l.length c):=by rw[<-z];have:=qT ((w.alloc (.cells #[.pointer (some ⟨mb,0,none⟩)] 85)).alloc (.cells #[.i 0] 31)) (.cells #[.slice I l.length c] 28);rw[yb,yb]at this;exact qy this
 have ad:aT (λb=>¬O b) p l I V:=(dB.grow (O:=O) F).U5 hl;have aq:=h.grow F;have g:∀b,w.heap.size<=b->¬O b:=λb hb L=>by have:=h.high b L;omega
 obtain⟨b,az,Z⟩:∃b,(l≠[]->∀q o,I=some ⟨q,o,none⟩->b=q)/\b<p.heap.size/\¬O b:=by
  cases l with
  | nil=>exact⟨w.heap.size,λh=>absurd rfl h,od,g _ (qv _)⟩
  | cons x r =>
   obtain⟨q,o,e,hq,k,n,a,s,aa,al,ac,ta,tl,tc,na,nl,nc,_,h0,_⟩:=hl.2.1 0 ot;exact⟨q,λ_ q' o' e'=>by rw[e]at e';cases e';rfl,by have:=kd w _ h0;simp only at this;omega,hq⟩
 obtain⟨R,bd,bc,N⟩:∃R:List (Item O p),R.length=l.length/\(∀r (h:r<R.length),encI R[r]=#[.i ((R.length - 1 - r:Nat):Int),V (R.length - 1 - r)])/\vQ R=l.reverse:=by
  refine⟨List.ofFn λr:Fin l.length=>⟨(l.length - 1 - r.1,l[l.length - 1 - r.1],V (l.length - 1 - r.1)),ad.2.2 _ od,kh (fO (zj od)) hz⟩,ot,λr h=>by simp[encI],?_⟩;apply List.ext_getElem
  .simp[vQ]
  .intro i f d;simp[vQ]
 refine wpIn_rangeFunc_ownH rfl ov (gf:=210) (lb:=#[.pointer (some ⟨w.heap.size+1+1,0,none⟩)]) rfl trivial (enters_of func210 oA rfl)
  (Je (encs:=encI) Fence.wide 4 trivial rfl ov (w.heap.size+1+1) b c I V R od bc p (λhx q o e=>az (λe2=>hx (ju (by rw[bd,e2];rfl))) q o e) od (by rw[bd];exact ak) (λj hj=>(ad.2.1 j od).ae λ_ _ _=>trivial))
  (λf d o=>⟨(d o).1.trans (f o).1,(d o).2.trans (f o).2⟩) (λW l o o' hl h _ _ q=>by have C:=grownBy_putObj' W l o';have ah:=(qq.1 h).1;exact⟨qn (C.block (w.heap.size+1+1) od oB),qn (C.block b od oB)⟩) (Below.refl _ _) (λ_=>rfl)
  (λpre W=>(∃O',dm B O' W mb en aC { m with st:=(vQ pre).reverse++m.st }/\dB O p O' W)/\(vQ pre).any yN=false)
  (λcd pre W=>cd =.ret/\(vQ pre).any yN=true/\W.cell? ⟨w.heap.size+1,0,none⟩=some (.i 13)/\∃O' m',m'.paid=m.paid/\m'.said=m.said/\dm B O' W mb en aC m'/\dB O w O' W)
  ?own ?ownx ⟨⟨O,aq,dB.refl _ _⟩,rfl⟩
  (λx a' W=>∃Bx k n a s aa al ac ta tl tc na nl nc,p.heap.size<=Bx/\x.1.2.2=bg k n a s aa al ac ta tl tc na nl nc/\W.heap[Bx]?=some (.cells #[.i k,.i n,.i a,.string s,.slice aa al ac,.slice ta tl tc,.slice na nl nc] 36) /\
   a' = { tmps:=#[.pointer (some ⟨mb,0,none⟩),.slice I l.length c,.pointer (some ⟨w.heap.size,0,none⟩),undef,.pointer (some ⟨w.heap.size+1,0,none⟩),undef,.pointer (some ⟨Bx,0,none⟩),.slice I l.length c,.func (.func 210) #[] #[.pointer (some ⟨w.heap.size+1+1,0,none⟩)],.i (x.1.1:Int),x.1.2.2,undef,undef,undef,undef,undef,undef,undef],defers:=[] })
  ?ownA ?assign ?body ?done ?stop
 case own =>
  rintro pre A A' row ⟨⟨O',f,d⟩,t⟩ C H;exact⟨⟨O',f.turn C λr e=>f.no (H r e).2,d.zB C λr e=>(H r e).1⟩,t⟩
 case ownx =>
  rintro cd pre A A' row ⟨f,d,t,O',m',h4,h5,h6,h7⟩ C H;exact⟨f,d,(cell_kept t C λr e=>(H r e).2),O',m',h4,h5,h6.turn C λr e=>h6.no (H r e).2,h7.zB C λr e=>by have:=(H r e).1;omega⟩
 case ownA =>
  rintro x a' _ A A' row ⟨Bx,k,n,a,s,aa,al,ac,ta,tl,tc,na,nl,nc,f,d,t,h4⟩ C H;exact⟨Bx,k,n,a,s,aa,al,ac,ta,tl,tc,na,nl,nc,f,d,(Cx C (λr e=>DZ (H r e).2) ⟨_,_,_,t,ot⟩).trans t,h4⟩
 case assign =>
  rintro lo pre ⟨⟨ix,y,v⟩,hL,aj⟩ W K ⟨⟨O',f,d⟩,t⟩ S;obtain⟨k,n,a,s,aa,al,ac,ta,tl,tc,na,nl,nc,rfl⟩:=hL.bg;dsimp only[encI,bg]
  gi_wp2
  refine S _ _ ((KeepsOthers.alloc _ _).from _) (λo=>⟨?_,?_⟩) ⟨⟨O',f.grow (aK _),d.trans (dB.grow (aK _))⟩,t⟩ ⟨W.heap.size,k,n,a,s,aa,al,ac,ta,tl,tc,na,nl,nc,d.size,rfl,qT _ _,rfl⟩
  .exact qn ((aK _).block (w.heap.size+1+1) (by have:=d.size;omega) ot)
  .exact qn ((aK _).block b (by have:=d.size;omega) ot)
 case body =>
  rintro lo pre ⟨⟨ix,y,v⟩,hL,aj⟩ a' W bp ⟨r,H⟩ ⟨⟨O',f,d⟩,t⟩ ⟨Bx,k,n,a,s,aa,al,ac,ta,tl,tc,na,nl,nc,bt,ev,aE,rfl⟩ br;dsimp only at hL aj ev;subst ev;have X:=d.lies hL;have HS:=jh (RL (X.ae (ok':=λ_=>True) λ_ _ _=>trivial) aj W (bM _ _));have q2:=(qn (d.block w.heap.size od (g _ (qv _)))).trans hA2;have Q:=(d.block (w.heap.size+1) od (g _ od)).trans hA4;have KB:=λ(w':World) (h:W.grownBy w' none)=>And.intro (cO (l5 aE h)) (And.intro (JJ h q2) (And.intro (qy (l5 Q h)) (We (l5 Q h))));have M:¬O' (w.heap.size+1):=λL=>by rcases d.new _ L with h|h;exact g _ od h;omega
  have au:¬O' (w.heap.size+1+1):=λL=>by rcases d.new _ L with h|h;exact g _ od h;omega
  have ar:¬O' b:=λL=>by rcases d.new _ L with h|h;exact Z.2 h;omega
  have bw:W.grownBy W none:=bM _ _;unfold bg at HS
  by_cases hb:200<wrap64 (vsum y:Nat)
  .gi_wp2_with (refine⟨trivial,?_⟩;gi_at_call 192;refine (CallsIn.inRound lo (callsIn_wide.2 HS)).mono ?_;rintro e w1 ⟨rfl,u⟩)
   have k4:=l5 Q u;have E:w1.grownBy (w1.setCell ⟨w.heap.size+1,0,none⟩ (.i 13)) (some (w.heap.size+1)):=dY (bM _ _) _ _ _;refine⟨(KeepsFrom.of_grownBy u (λj e=>by cases e)).trans ((KeepsOthers.setCell _ _ _).from _),rfl,by simp[vQ,yN,hb],World.cell?_setCell_same' _ _ _ (by rw[qy k4];rfl),O',{ m with st:=(vQ pre).reverse++m.st },rfl,rfl,(f.grow u).turn E (λr e=>by cases e;exact⟨LP k4,M⟩),(((dB.grow F).trans d).trans (dB.grow u)).zB E (λr e=>by cases e;omega)⟩
  .have G:((vQ pre).reverse++m.st).length+[y].length<=100000000:=by simp[vQ];omega
   obtain⟨HM,H1,H2,H3,bl,bk,bf,bn⟩:=wj (λ(w1:World) (hS:W.grownBy w1 none)=>Ha (l:=[y]) ((f.grow hS).grow (aK _)) (Src.one (T:=36) ((dB.grow (O:=O') hS).lies X)) G) f d t au ar Z ai;generalize ax:ownPostG _ _ _ _ _ _=QQ;have bm:=jh ax;clear ax;clear f d t X au ar Z ai H bp aE q2 Q M hA2 hA4 ak ad aq g az bc N F z hl hz aO G h
   gi_wp2_with (first
    | (refine⟨trivial,?_⟩;gi_at_call 192;refine (CallsIn.inRound lo (callsIn_wide.2 HS)).mono ?_;rintro e w1 ⟨rfl,u⟩)
    | (refine⟨trivial,?_⟩;gi_at_call 115;have ba:=CallsIn.inRound lo ((callsIn_wide (n:=2)).2 (HM w1 u));refine ba.mono ?_;clear ba HM HS;rintro e w2 ⟨rfl,O2,an,J⟩;have bh:=jh an;have bj:=jh J;clear an J;refine qh5 λbb=>?_))
   apply bb;clear bb;rename_i K1 ao;refine ao _ _ ?_;clear ao
   gi_wp2
   rw[<-bm.out];have J:=bj.out;have hF:dB O' W O2 w2:=((dB.grow u).trans (dB.grow (aK _))).trans bh;have d:=H2.out;have t:=H3.out;have ai:=bn.out;have ah:w.heap.size+1+1<W.heap.size/\b<W.heap.size:=by have:=d.size;have:=bf.out.1;omega
   have g1:KeepsFrom p.heap.size W w2:=NB hF (dm.cells H1) _;have g2:YP (w.heap.size+1+1) b W w2:=λo=>⟨qn (hF.block (w.heap.size+1+1) ah.1 bl),qn (hF.block b ah.2 bk)⟩;have g4:=d.trans hF;have g5:yN y=false:=jc2 od;have g6:∀x:Item O p,x.1.2.1=y->(∃O',dm B O' w2 mb en aC { m with st:=(vQ (pre++[x])).reverse++m.st }/\dB O p O' w2)/\(vQ (pre++[x])).any yN=false:=λx e=>by
    rw[OL,e];refine⟨⟨O2,?_,g4⟩,?_⟩
    .rw[qe7,ub];exact J
    .rw[List.any_append,t,List.any_cons,List.any_nil,g5];rfl
   exact Ag g1 g2 (g6 _ rfl)
 case done =>
  rintro D ys W hD rfl ⟨⟨O',f,d⟩,t⟩ S;have Q:=(d.block (w.heap.size+1) od (g _ od)).trans hA4;have z0:=qy Q;have z1:=We Q
  gi_wp2
  have U:=(KeepsOthers.setCell W ⟨w.heap.size+1,0,none⟩ (.i 0)).same D _ S rfl;refine⟨ot,.inl ⟨_,_,rfl,run_takeDeferred U,?_⟩⟩;have ab:=cell_kept (World.cell?_setCell_same' W ⟨w.heap.size+1,0,none⟩ (.i 0) (by rw[z0];rfl)) (grownBy_putObj' _ D (.deferred none)) (λr e=>by cases e;exact⟨_,U,rfl⟩);have M:¬O' (w.heap.size+1):=λL=>by rcases d.new _ L with h|h;exact g _ od h;omega
  have E:W.grownBy (W.setCell ⟨w.heap.size+1,0,none⟩ (.i 0)) (some (w.heap.size+1)):=dY (bM _ _) _ _ _;have Y:=f.turn E (λr e=>by cases e;exact⟨LP Q,M⟩);refine⟨.i 0,by simp[results,results154,go_sem,ab],O',(((dB.grow F).trans d).zB E (λr e=>by cases e;omega)).zB (grownBy_putObj' _ D (.deferred none)) (λr e=>by cases e;omega),?_⟩;rw[N,List.any_reverse]at t;rw[N,je2]at Y;unfold oH;rw[oa,t,if_neg ot];exact⟨rfl,Y.turn (grownBy_putObj' _ D (.deferred none)) (λr e=>by cases e;exact Y.no ⟨_,U,rfl⟩)⟩
 case stop =>
  rintro D cd pre W hD ⟨k,hk,rfl⟩ ⟨rfl,P,bo,O',m',e1,e2,f,d⟩ S
  gi_wp2
  refine⟨ot,.inl ⟨_,_,rfl,run_takeDeferred S,?_⟩⟩;have ab:=cell_kept bo (grownBy_putObj' _ D (.deferred none)) (λr e=>by cases e;exact⟨_,S,rfl⟩);refine⟨.i 13,by simp[results,results154,go_sem,ab],O',d.zB (grownBy_putObj' _ D (.deferred none)) (λr e=>by cases e;omega),?_⟩;have ay:l.any yN=true:=by rw[<-List.any_reverse,<-N];rw[qh3]at P|-;obtain⟨y,hy,bq⟩:=P;exact⟨y,by simp only[vQ,qa7]at hy|-;obtain⟨x,hx,e⟩:=hy;exact⟨x,qf2 hx,e⟩,bq⟩
  unfold oH;rw[oa,ay,if_pos rfl];exact⟨ov,rfl,m',e1,e2,f.turn (grownBy_putObj' _ D (.deferred none)) (λr e=>by cases e;exact f.no ⟨_,S,rfl⟩)⟩
end
section
variable {B:Nat}{O O':Nat->Prop}{w w':World}{mb:Nat}{en:En}{aC:Int}{m:Ma}{k n a:Int}{s:ByteArray}{aa:Option Addr}{al ac:Nat}{ta:Option Addr}{tl tc:Nat}{na:Option Addr}{nl nc:Nat}{sv fv:Value}{us fs:List Value}
def Ue:(prog.info? 68).map (λi=>(i.zero,i.size,i.bytes))=some (some (.agg #[.n0,.i 0,.n0,.n0]),4,80):=oA
def OX (us:List Value):Prop:=∀u∈us,∃ra rl rc op wa wl wc aa al ac,u=yF ra rl rc op wa wl wc aa al ac
def wE{us:List Value}(h:OX us):(flat us).length=us.length*4/\∀y∈flat us,y.oneCell'=true:=by
 refine⟨rY λu b=>?_,λy a=>?_⟩
 .obtain⟨c,f,d,op,g,i,wc,aa,al,ac,e⟩:=h u b;rw[e];rfl
 .simp only[flat,jh2]at a;obtain⟨u,b,a⟩:=a;obtain⟨c,f,d,op,g,i,wc,aa,al,ac,e⟩:=h u b;rw[e]at a;simp[yF,nodeCells]at a;rcases a with rfl|rfl|rfl|rfl<;>rfl
def jc.form:∀{f:List Fr}{us:List Value},jc B O w f us->OX us/\us.length=f.length
 | [],[],_=>⟨λu d=>by simp at d,rfl⟩
 | f::fs,u::us,h=>by
  obtain⟨c,b⟩:=h;obtain⟨i,j,k,wc,aa,ac,e,g,rfl,_⟩:=c;refine⟨λv a=>?_,by simp[b.form.2]⟩;rcases xb.1 a with rfl|a
  .exact⟨_,_,_,_,_,_,_,_,_,_,rfl⟩
  .exact b.form.1 v a
 | [],_::_,h=>h.elim
 | _::_,[],h=>h.elim
def jc.snoc{f:Fr}{u:Value}(a:wU B O w f u):∀{l:List Fr}{us:List Value},jc B O w l us->jc B O w (l++[f]) (us++[u])
 | [],[],_=>⟨a,trivial⟩
 | f::fs,u::us,h=>⟨h.1,jc.snoc a h.2⟩
 | [],_::_,h=>h.elim
 | _::_,[],h=>h.elim
def jc.split{f:Fr}{u:Value} : ∀{l:List Fr}{us:List Value},jc B O w (l++[f]) (us++[u])->jc B O w l us/\wU B O w f u
 | [],[],h=>⟨trivial,h.1⟩
 | f::fs,u::us,h=>⟨⟨h.1,(jc.split h.2).1⟩,(jc.split h.2).2⟩
 | [],u::us,h=>by have:=h.2;cases us<;>exact this.elim
 | f::fs,[],h=>by have:=h.2;cases fs<;>exact this.elim
def kV{f:Fr}{u:Value} : ∀{l:List Fr}{us:List Value},us.length=l.length->keptBs (l++[f]) (us++[u])=keptBs l us++lM f u
 | [],[],_=>by simp[keptBs]
 | f::fs,u::us,h=>by simp only[qd2,keptBs,kV (by simpa using h),ub]
def bU.apart(h:bU B O w mb en aC m k n a s aa al ac ta tl tc na nl nc sv fv us fs):(∀g,sv.ownBlock=some g->g≠mb/\fv.ownBlock≠some g)/\(∀g∈keptBs m.fr.reverse fs,g≠mb/\fv.ownBlock≠some g/\sv.ownBlock≠some g)/\fv.ownBlock≠some mb:=by
 have hF:∀{g:Nat} {cs:Array Value},w.heap[g]?=some (.cells cs 36)->fv.ownBlock≠some g:=λb e=>aD h.own b ov e.symm;refine⟨λg e=>?_,λg d=>?_,λe=>aD h.own h.blk ov e.symm⟩
 .rcases h.jL.own.2 with⟨c,_⟩|⟨j,f,i,c,_,b,_⟩
  .rw[c]at e;cases e
  .rw[c]at e;cases e;exact⟨dC b h.blk ov,hF b⟩
 .obtain⟨_,cs,b⟩:=h.sZ.mine g d;exact⟨dC b h.blk ov,hF b,λe=>(qb5.1 h.nodup).2.2 g (by simp[e]) g d rfl⟩
def bU.push(h:bU B O w mb en aC m k n a s aa al ac ta tl tc na nl nc sv fv us fs)(i:dB O w O' w'){st:List Va}{f:Fr}{u sv' c:Value}{us':List Value}(d:w'.heap[mb]?=some (.cells (yG en aC m.paid m.aO k n a s aa al ac ta tl tc na nl nc sv' c) 65))
 (hstk:sU B O' w' st.reverse sv' us') (hown:kU B w' c (fs++[u])) (hu:wU B O' w' f u) (hnd:(sv'.ownBlock.toList++(keptBs m.fr.reverse fs++lM f u)).Nodup) (hO:∀g,O g->fv.ownBlock≠some g->O' g) (hk:∀g∈keptBs m.fr.reverse fs,w'.heap[g]?=w.heap[g]?)
 (hfv:∀g,c.ownBlock=some g->O' g) (hcells:∀b,O' b->∃cs e,w'.heap[b]?=some (.cells cs e)):bU B O' w' mb en aC { m with st:=st,fr:=f::m.fr } k n a s aa al ac ta tl tc na nl nc sv' c us' (fs++[u]):=by
 have o:=h.apart;have q:=h.sZ.form.2;refine⟨d,i.lies h.said,hstk,hown,?_,?_,⟨hO _ h.mine.1 o.2.2,hfv⟩,λb p=>?_,hcells,h.num⟩
 .simp only[qb0];exact jc.snoc hu (h.sZ.kept i λg j=>⟨hO g (h.sZ.mine g j).1 (o.2.1 g j).2.1,hk g j⟩)
 .simp only[qb0];rw[kV q];exact hnd
 .rcases i.new b p with l|l
  .exact h.low b l
  .have:=h.low _ h.mine.1;have:=h.high _ h.mine.1;omega
def WY{w:World}{g:Nat}{T:TypeId}{x0 a b c:Value}(h:w.heap[g]?=some (.cells #[x0,a,b,c] T (0,0))):w.cell? ⟨g,0,none⟩=some x0/\w.cell? ⟨g,1,none⟩=some a/\w.cell? ⟨g,2,none⟩=some b/\w.cell? ⟨g,3,none⟩=some c:=by simp[World.cell?,h]
def IW (B:Nat) (w:World) (mb:Nat) (fv:Value) (us:List Value) (e:Ending) (w':World):Prop :=
 e =.returned (.tuple #[])/\∃fv' w1,Gr w fv w1 fv'/\kU B w1 fv' us/\w'=w1.setCell ⟨mb,15,none⟩ fv'
def Dm{ra:Option Addr}{rl rc:Nat}{op:Int}{wa:Option Addr}{wl wc:Nat}{ba:Option Addr}{bl bc:Nat}(h:bU B O w mb en aC m k n a s aa al ac ta tl tc na nl nc sv fv us fs)(r:m.fr.length<=100000000):Calls prog 29 #[.pointer (some ⟨mb,0,none⟩),.agg #[.slice ra rl rc,.i op,.slice wa wl wc,.slice ba bl bc]] w (IW B w mb fv (fs++[yF ra rl rc op wa wl wc ba bl bc])):=by
 have A:=aK (w:=w) (.cells #[.slice ra rl rc,.i op,.slice wa wl wc,.slice ba bl bc] 68);have y:=qT w (.cells #[.slice ra rl rc,.i op,.slice wa wl wc,.slice ba bl bc] 68);have HM:=jh h;have j:Hid (fs.length<=100000000):=by have:=h.sZ.form.2;rw[ue]at this;exact (by omega:fs.length<=100000000)
 have G:Hid (B<=w.heap.size):=by have:=h.low _ h.mine.1;have:=h.high _ h.mine.1;exact (by omega:B<=w.heap.size)
 have J:=h.high _ h.mine.1;clear h r;go_enter func29,ntmps29;go_wp2_with fail;refine qh6 (S:=λw'=>w'.heap[w.heap.size]?=some (.cells #[.slice ra rl rc,.i op,.slice wa wl wc,.slice ba bl bc] 68)) oA y (λd=>?_);have g:w.grownBy (w.alloc (.cells #[.slice ra rl rc,.i op,.slice wa wl wc,.slice ba bl bc] 68)).drew none:=fK A;generalize (w.alloc _).drew=F at *;have c:=jh (HM.grow g);have x:=(iM c.blk).2.2.2.2.2.2.2.2.1;have D:=JJ (aK (w:=F) (.cells #[.slice ra rl rc,.i op,.slice wa wl wc,.slice ba bl bc] 68)) x;refine fG 0 4 ?_;refine fG 1 5 ?_;refine fG 2 6 ?_;refine fG 3 7 ?_;refine LX 5 9 (v:=.agg #[.slice ra rl rc,.i op,.slice wa wl wc,.slice ba bl bc]) ⟨_,rfl,rfl,rfl,λQ I=>?_⟩ ?_
 .have z:=WY I;go_simp
 simp only[Act.put,pS];have f:=aB (o:=.cells #[.slice ra rl rc,.i op,.slice wa wl wc,.slice ba bl bc] 68) d;refine kA (rs:=[4,6]) oA ot ?_;refine jx rfl (λK b=>?_) (jx rfl (λK b=>?_) kj)
 focus
  go_simp;refine b _ _ d (λ_=>?_);clear b K;refine kA (rs:=[6]) oA ot ?_;refine jx rfl (λK b=>?_) kj;go_simp;refine b _ _ f (λ_=>?_);clear b K
 rotate_left
 focus
  go_simp;refine b _ _ f (λ_=>?_);clear b K;refine kA (rs:=[4]) oA ot ?_;refine jx rfl (λK b=>?_) kj;go_simp;refine b _ _ f (λ_=>?_);clear b K
 all_goals
  refine kA (rs:=[7]) oA ot ?_;refine jx rfl (λK b=>?_) kj;refine yx rfl (.tmp 8) (.tmp 10) 63 rfl B 68 underlying63 Ue rfl ov fv fs.length (flat fs) rfl (xo c.own _) (.slice (some ⟨F.heap.size,0,none⟩) 1 1) 1 [.slice ra rl rc,.i op,.slice wa wl wc,.slice ba bl bc] rfl rfl (gZ.new _ _ _ _ _) (by intro u E;simp at E;rcases E with rfl|rfl|rfl|rfl<;>rfl) (by have:=j.out;unfold maxLen;omega) (by have:=j.out;omega) (kh G (kh g.size (aK _).size)) ?_;intro P L C t _;obtain⟨M,N,rfl⟩:=nX C;have HO:=jh C;have H:=jh t;have p:=c.out.blk;have q:=(t.block (jz (c.high _ c.mine.1) (aK _).size) c.apart.2.2.symm).trans (aB p);have R:=iM q;have l:=(t.block (qq.1 f).1 (λe=>je3 _ (kp HM.own _ e.symm).2)).trans f;clear C t p q;refine b _ _ l (λ_=>?_);clear b K;refine fG 8 12 ?_;refine fG 9 13 ?_;refine kA (rs:=[10]) oA ot ?_;refine jx rfl (λK b=>?_) kj;go_simp;refine b _ _ ((Below.heap_setCell _ _ _ _ (by show w.heap.size≠mb;omega)).trans l) (λ_=>?_);clear b K;refine qd6 oA ?_ _;go_wp2_with fail;refine zv (v:=.tuple #[]) (by simp[results,results29,go_sem]) rfl ?_;refine⟨rfl,_,L,?_,?_,rfl⟩
  .exact Gr.trans ⟨kL (aJ g (aK _)),.inl rfl⟩ H
  .unfold kU;rw[qS,bV];exact HO
def Dp{ra:Option Addr}{rc:Nat}{wa:Option Addr}{wc:Nat}{ba:Option Addr}{bc:Nat}{f:Fr}{L VW VA:Nat->Value}(h:dm B O w mb en aC m)(x:m.fr.length<=100000000)(r:f.op≠67/\bD f.op)(U:cK (λb=>¬O b) w f.rest ra L)(V:cK (λb=>¬O b) w f.row wa VW)(S:aT (λb=>¬O b) w f.aside ba VA)(T:f.rest.length<=rc/\f.row.length<=wc/\f.aside.length<=bc) :
 Calls prog 29 #[.pointer (some ⟨mb,0,none⟩),.agg #[.slice ra f.rest.length rc,.i f.op,.slice wa f.row.length wc,.slice ba f.aside.length bc]] w (K8 B O w mb en aC { m with fr:=f::m.fr }):=by
 obtain⟨k,n,a,s,aa,al,ac,ta,tl,tc,na,nl,nc,sv,fv,us,fs,h⟩:=h;refine (Dm h x).mono ?_;rintro e w' ⟨rfl,c,y,v,K,rfl⟩;have o:=h.apart;have j:y.grownBy (y.setCell ⟨mb,15,none⟩ c) (some mb):=dY (bM _ _) _ _ _;have D:=dB.gr v h.mine.2;have I:qx O fv c mb:=.inl ⟨h.mine.1,o.2.2⟩;have F:dB (qx O fv c) y (qx O fv c) (y.setCell ⟨mb,15,none⟩ c):=dB.ofRow j (λq e=>by cases e;exact I);have t:=D.trans F;have E:=(v.block (h.high _ h.mine.1) o.2.2.symm).trans h.blk;have p:=(nG E c).2.1;have d:∀g,O g->g≠mb->fv.ownBlock≠some g->(y.setCell ⟨mb,15,none⟩ c).heap[g]?=w.heap[g]?:=λg A Q R=>(j.block g (jz (h.high g A) v.1.size) (by simpa using Q)).trans (v.block (h.high g A) R.symm);have G:∀g,c.ownBlock=some g->g≠mb:=λg e u=>by
  subst u;rcases v.2 with z|⟨W,z,C⟩
  .exact o.2.2 (by rw[<-z,e])
  .rw[e]at z;cases z;have:=h.high _ h.mine.1;omega
 have H:lM f (yF ra f.rest.length rc f.op wa f.row.length wc ba f.aside.length bc)=[]:=by unfold lM;rw[if_neg r.1]
 refine⟨rfl,_,t,_,_,_,_,_,_,_,_,_,_,_,_,_,_,_,_,_,h.push t p (h.jL.kept t λg e=>⟨.inl ⟨h.jL.mine g e,(o.1 g e).2⟩,d g (h.jL.mine g e) (o.1 g e).1 (o.1 g e).2⟩) (iT K λg e=>j.block g (kp K g e).2 (by simpa using G g e))
  ⟨ra,rc,wa,wc,ba,bc,L,VW,rfl,r.2,T,t.Kl U,t.Kl V,λe=>absurd e r.1,λ_=>⟨VA,t.U5 S⟩⟩ (by rw[H,qe3];exact h.nodup) (λg A J=>.inl ⟨A,J⟩) (λg C=>d g (h.sZ.mine g C).1 (o.2.1 g C).1 (o.2.1 g C).2.1) (λg e=>.inr e) (λb l=>?_)⟩
 by_cases e:b=mb
 .subst e;exact⟨_,_,p⟩
 .rcases l with l|l
  .rw[d b l.1 e l.2];exact h.cells b l.1
  .rcases K.2 with⟨u,_⟩|⟨g,N,P,u,_,M,_⟩
   .rw[u]at l;cases l
   .rw[u]at l;cases l;rw[j.block _ (qq.1 M).1 (by simpa using e)];exact⟨_,_,M⟩
end
