import Derived.Test.YtnamdihclpbdfaaGreatKuZat
import Derived.Deep.LoopGhost
import Derived.Deep.RegionWith
namespace Go.Proofs.YtnamdihclpbdfaaGreat
set_option linter.all false
open Go.Proofs.Tryz
open Go.ChangeShapes Go.WideShapes Go.ChangeAt Go.RowKit
set_option maxRecDepth 100000
set_option maxHeartbeats 1000000
def Qw:(prog.info? 27).map (λi=>(i.zero,i.size,i.bytes))=some (some (.n0),1,24):=oA
def tsz:List (Nat×ao)->Nat
 | []=>0
 | (_,xs)::l=>vsizes xs+1+tsz l
def Cw(g:Nat)(xs:ao):∀l,tsz (l++[(g,xs)])=tsz l+(vsizes xs+1)
 | []=>by simp[tsz]
 | (_,a)::l=>by simp only[qd2,tsz,Cw g xs l];omega
def len_tsz:∀l,l.length<=tsz l
 | []=>yv _
 | (_,a)::l=>by have:=len_tsz l;simp only[js,tsz];omega
def YN (M:Nat->Option ao) (P:Nat->Nat) (g:Nat) (xs:ao) (j:Nat) (a:bj):Prop:=xs=[]\/a=some ⟨g,0,none⟩/\M g=some xs/\P g=j
structure nK (W w:cg) (M:Nat->Option ao) (P:Nat->Nat) (tb cap:Nat) (vs:bo) (ts:List (Nat×ao)):Prop where
 ren:jZ W w M P
 own:w.ownsRow W.heap.size 27 1 (.o tb ts.length cap) ts.length vs
 OT:∀(i g:Nat) (xs:ao),ts[i]?=some (g,xs)->∃a c,vs[i]?=some (Value.slice a xs.length c)/\YN M P g xs 0 a
 nd:(ts.map Prod.fst).Nodup
 blk:M tb=some []
 XV:∀g∈ts.map Prod.fst,g<w.heap.size
section
variable {W w w':cg}{M:Nat->Option ao}{P:Nat->Nat}{tb cap:Nat}{vs:bo}{ts:List (Nat×ao)}
def nK.grow(h:nK W w M P tb cap vs ts)(a:cq w w' none):nK W w' M P tb cap vs ts :=
 ⟨h.ren.grow a,qd6 h.own a (.inr Of),h.OT,h.nd,h.blk,λg b=>kh (h.XV g b) a.size⟩
def nK.low(h:nK W w M P tb cap vs ts):W.heap.size<=tb:=(qb5 h.own tb rfl).1
def nK.pop{g:Nat}{xs:ao}(h:nK W w M P tb cap vs (ts++[(g,xs)])):∃j a c,nK W w M P tb cap j ts/\w.cell? ⟨tb,ts.length,none⟩=some (.slice a xs.length c)/\YN M P g xs 0 a/\g ∉ ts.map Prod.fst:=by
 have n:=h.own.1;simp at n;have⟨a,c,e,u⟩:=h.OT ts.length g xs oe;have v:vs=vs.take ts.length++[.slice a xs.length c]:=by have k:=jc0 (l:=vs) (i:=ts.length) od;rw[<-n,je6]at k;rw[qu od]at e;simp only[qq]at e;rw[<-e];exact k
 have o:=h.own;rw[v,jx]at o;have f:=h.nd;rw[qa0,qe0]at f;refine⟨vs.take ts.length,a,c,⟨h.ren,Av o,λi s x m=>?_,f.1,h.blk,λg d=>h.XV g (by rw[qa0];exact jb6 _ d)⟩,?_,u,λd=>f.2.2 _ d g oe rfl⟩
 .have b:=(qT.1 m).1;have⟨p,q,r,t⟩:=h.OT i s x (by rw[zd b];exact m);exact⟨p,q,by rw[List.getElem?_take_of_lt b];exact r,t⟩
 .have:=qd7 h.own (g:=tb) rfl ts.length _ e;rw[gI,qb1]at this;exact this
def nK.add{l:ao}{g c:Nat}{us:bo}(h:nK W w M P tb cap vs ts)(hK:nI (λb=>M b≠none) w w' (.o g l.length c) l us)(d:cq w w' none)(hm:l.length<=maxLen) :
 nK W w' (λb=>if b=g then some l else M b) (λb=>if b=g then 0 else P b) tb cap vs ts:=by
 have p:=(qb5 hK.own g rfl).1;refine⟨h.ren.add hK d hm,qd6 h.own d (.inr Of),λi f k q=>?_,h.nd,?_,λg hm=>kh (h.XV g hm) d.size⟩
 .have⟨a,c,e,o⟩:=h.OT i f k q;refine⟨a,c,e,o.imp id λ⟨m,j,n⟩=>?_⟩;have:=h.ren.lt f k j;exact⟨m,by dsimp only;rw[oa];exact j,by dsimp only;rw[oa];exact n⟩
 .have:=h.ren.lt tb _ h.blk;show (if tb=g then _ else _)=_;rw[oa];exact h.blk
def nK.put{f:cg}{g i:Nat}{xs:ao}{x:Va}{l ta na:bj}{m tc nc:Nat}{VT VN:bt}(h:nK W w M P tb cap vs ts)(j:M g=some xs)(t:P g=i)(o:xs[i]?=some x)(hc:x.args.length<=m/\x.types.length<=tc/\x.code.length<=nc)
 (hT:dw (λb=>M b=none/\W.heap.size<=b) f x.types ta VT) (hN:cK (λb=>M b=none/\W.heap.size<=b) f x.code na VN) (hw:Wrote W.heap.size w f g i xs.length (.slice l x.args.length m) (.slice ta x.types.length tc) (.slice na x.code.length nc)) (hA:x.args=[]\/∃d,l=some ⟨d,0,none⟩/\M d=some x.args) (hn:g ∉ ts.map Prod.fst) :
 nK W f M (λb=>if b=g then i+1 else P b) tb cap vs ts:=by
 refine⟨h.ren.put j t o hc hT hN hw hA,qd6 h.own hw.1 (.inr (λe=>?_)),λk d v n=>?_,h.nd,h.blk,λg u=>kh (h.XV g u) hw.1.size⟩
 .simp only[Value.ownBlock,qq]at e;subst e;rw[h.blk]at j;cases j;simp at o
 .have⟨a,c,e,s⟩:=h.OT k d v n;refine⟨a,c,e,s.imp id λ⟨p,q,r⟩=>⟨p,q,?_⟩⟩;dsimp only;rw[if_neg (λe=>hn (by rw[<-e];exact kB.2 ⟨_,ka n,rfl⟩))];exact r
def nK.push{g c:Nat}{xs:ao}{v':cm}(h:nK W w M P tb cap vs ts)(B:M g=some xs)(I:P g=0)(hn:g ∉ ts.map Prod.fst)
 (ho:w'.ownsRow W.heap.size 27 1 v' (ts.length+1) (vs++[.o g xs.length c])) (hg:Gr w (.o tb ts.length cap) w' v') :
 ∃o f d,v' =.o f (ts.length+1) d/\nK W w' o P f d (vs++[.o g xs.length c]) (ts++[(g,xs)])/\(∀b l,M b=some l->o b=some l)/\∀b l,o b=some l->l≠[]->M b=some l:=by
 have x:=h.own.1;simp at x;have⟨f,d,e⟩:∃f d,v' =.o f (ts.length+1) d:=by
  rcases ho.2 with⟨_,h0⟩|⟨j,K,E,e,_⟩
  .omega
  .exact⟨_,_,e⟩
 subst e;have k:∀o:Nat->Option ao,(∀b l,M b=some l->o b=some l)->∀(i j:Nat) (v:ao),(ts++[(g,xs)])[i]?=some (j,v)->∃a y,(vs++[Value.o g xs.length c])[i]?=some (Value.slice a v.length y)/\YN o P j v 0 a:=λo q i j v s=>by
  by_cases A:i<ts.length
  .rw[zd A]at s;have⟨a,y,e,H⟩:=h.OT i j v s;exact⟨a,y,by rw[zd od];exact e,H.imp id λ⟨F,z,G⟩=>⟨F,q _ _ z,G⟩⟩
  .have t:=(qT.1 s).1;simp at t;obtain rfl:i=ts.length:=by omega
   simp at s;obtain⟨rfl,rfl⟩:=s;exact⟨_,c,by rw[<-x];simp,.inr ⟨rfl,q _ _ B,I⟩⟩
 have u:((ts++[(g,xs)]).map Prod.fst).Nodup:=by rw[qa0,qe0];refine⟨h.nd,oe,λa J b C e=>?_⟩;simp at C;subst C;exact hn (e ▸ J)
 have n:w'.ownsRow W.heap.size 27 1 (.o f (ts++[(g,xs)]).length d) (ts++[(g,xs)]).length (vs++[.o g xs.length c]):=by rw[jx];exact ho
 have D:∀b,(Value.o tb ts.length cap).ownBlock=some b->M b=some []/\W.heap.size<=b:=λb e=>by simp only[Value.ownBlock,qq]at e;subst e;exact⟨h.blk,h.low⟩
 have m:∀j∈(ts++[(g,xs)]).map Prod.fst,j<w'.heap.size:=λj p=>by
  rw[qa0,ki]at p;rcases p with p|p
  .exact kh (h.XV j p) hg.1.size
  .simp at p;subst p;exact kh (h.ren.lt _ _ B) hg.1.size
 rcases hg.2 with e|⟨g2,e,z⟩
 .simp only[Value.ownBlock,qq]at e;subst e;exact⟨M,_,d,rfl,⟨h.ren.Qu hg.1 D,n,k M (λ_ _ h=>h),u,h.blk,m⟩,λ_ _ h=>h,λ_ _ h _=>h⟩
 .simp only[Value.ownBlock,qq]at e;subst e;have r:∀b l,M b=some l->(if b=f then some []else M b)=some l:=λb l e=>by rw[if_neg (by have:=h.ren.lt b l e;omega)];exact e
  exact⟨λb=>if b=f then some []else M b,f,d,rfl,⟨h.ren.aside hg.1 D z (World.ownsRow.lt ho f rfl).2,n,k _ r,u,if_pos rfl,m⟩,r,λb l e x=>by dsimp only at e;split at e;cases e;exact absurd rfl x;exact e⟩
def Fin (l:ao) (a0:bj) (M:Nat->Option ao):Prop:=l=[]\/∃g,a0=some ⟨g,0,none⟩/\M g=some l
def Fin.mono{l:ao}{c:bj}{a:Nat->Option ao}(h:Fin l c M)(f:∀b l,M b=some l->a b=some l):Fin l c a:=h.imp id λ⟨g,d,e⟩=>⟨g,d,f _ _ e⟩
def nI.slice{O:br}{v:cm}{l:ao}{us:bo}(h:nI O W w v l us):∃a c,v =.slice a l.length c/\l.length<=c:=by
 rcases h.own.2 with⟨rfl,h0⟩|⟨g,cap,b,rfl,_,_,d,_⟩
 .exact⟨none,0,by rw[<-h.len,h0],by rw[<-h.len,h0];exact jj _⟩
 .exact⟨_,cap,by rw[h.len],by rw[<-h.len];exact d⟩
def nI.some{O:br}{a:bj}{c:Nat}{l:ao}{us:bo}(h:nI O W w (.slice a l.length c) l us)(d:l≠[]):∃g,a =.some ⟨g,0,none⟩:=by
 rcases h.own.2 with⟨e,h0⟩|⟨g,cap,b,e,_⟩
 .exact absurd (jz (by rw[<-h.len,h0])) d
 .simp only[ye]at e;exact⟨g,e.1⟩
def KH{l:ao}{c:bj}{d:Nat}{us:bo}(x:Dn M P λ_=>False)(R:jZ W W M P)(hK:nI (λb=>M b≠none) W w (.slice c l.length d) l us)(p:cq W w none)(hm:l.length<=maxLen) :
 ∃o s g,nK W (w.alloc (.cells #[.slice c l.length d] 27)) o s w.heap.size 1 [.slice c l.length d] [(g,l)]/\Fin l c o/\Dn o s (λq=>q=g/\l≠[]):=by
 have v:=xF w (.cells #[.slice c l.length d] 27);have j:=Lf.gb (w:=w) (.cells #[.slice c l.length d] 27);have f:w.heap.size<(w.alloc (.cells #[.slice c l.length d] 27)).heap.size:=(kj.1 v).1;have h:(w.alloc (.cells #[.slice c l.length d] 27)).ownsRow W.heap.size 27 1 (.o (w.heap.size) 1 1) 1 [.slice c l.length d] :=
  ⟨rfl,.inr ⟨w.heap.size,1,_,rfl,p.size,v,jj _,ZS,rfl,rfl⟩⟩
 by_cases n:l=[]
 .exact⟨_,_,w.heap.size,⟨(R.grow p).aside j (λ_ e=>by cases e) (jj _) f,h,λi u m a=>by
   match i,a with
   | 0,a =>
    simp only[kO,qq,ju]at a;obtain⟨rfl,rfl⟩:=a;exact⟨c,d,rfl,.inl n⟩
   | i+1,a=>simp at a,oe,if_pos rfl,λg hm=>by simp at hm;subst hm;exact f⟩,.inl n,λb m e k=>by dsimp only at e;split at e;cases e;exact absurd rfl k;exact .inr ((x b m e k).resolve_left id)⟩
 .obtain⟨g,rfl⟩:=hK.some n;have t:=R.add hK p hm;have r:=t.lt g l (if_pos rfl);refine⟨_,_,g,⟨t.aside j (λ_ e=>by cases e) (jj _) f,h,λi u m a=>?_,oe,if_pos rfl,λu hm=>by simp at hm;subst hm;exact Nat.lt_trans r f⟩,.inr ⟨g,rfl,?_⟩,?_⟩
  .match i,a with
   | 0,a =>
    simp only[kO,qq,ju]at a;obtain⟨rfl,rfl⟩:=a;exact⟨_,d,rfl,.inr ⟨rfl,by dsimp only;rw[oa,if_pos rfl],by dsimp only;rw[if_pos rfl]⟩⟩
   | i+1,a=>simp at a
  .dsimp only;rw[oa,if_pos rfl]
  .intro b m e k;dsimp only at e|-;split at e
   .cases e;exact absurd rfl k
   .by_cases y:b=g
    .exact .inl ⟨y,n⟩
    .rw[if_neg y]at e|-;exact .inr ((x b m e k).resolve_left id)
def Oe{l:ao}{k:bj}(R:jZ W w M P)(m:Dn M P λ_=>False)(hF:Fin l k M):∃V,aT (W.heap.size <= ·) w l k V:=by
 by_cases f:l=[]
 .exact⟨λ_=>.i 0,by rw[f];exact aT.nil _ _ _ _⟩
 .rcases hF with h|⟨g,rfl,n⟩
  .exact absurd h f
  .have⟨hW,q,u,cap,r,j,p⟩:=R.rows g l n f;have t:=(m g l n f).resolve_left id;have⟨a,c,V,e,_,h⟩:=uG (ok:=(W.heap.size <= ·)) r j (λi y v o s=>Kj R m _ y v (jj _) ((p i y v o s).1.mono λb d=>by
    rcases d with d|d
    .have:=(qT.1 o).1;omega
    .exact d)) (λb e=>by simp only[Value.ownBlock,qq]at e;subst e;exact hW) q
   simp only[ye]at e;obtain⟨rfl,_⟩:=e;exact⟨V,h⟩
def Put (W:cg) (M:Nat->Option ao) (P:Nat->Nat) (tb cap:Nat) (vs:bo) (ts:List (Nat×ao)) (g j:Nat) (x:Va) (wx:cg):Prop:=∃M' P' aa ac,nK W wx M' P' tb cap vs ts/\(∀b l,M b=some l->M' b=some l)/\P' g=j+1/\wx.cell? ⟨g,j*7+4,none⟩=some (.slice aa x.args.length ac)/\(x.args=[]\/∃g',aa=some ⟨g',0,none⟩/\M' g'=some x.args/\P' g'=0/\g' ∉ ts.map Prod.fst/\g'≠g)/\∀X,Dn M P X->Dn M' P' λq=>X q\/x.args≠[]/\aa=some ⟨q,0,none⟩
def UK{g j r s i:Nat}{xs:ao}{x:Va}{G m q:cg}{us:bo}{o H I:bj}{O Q:bt}(h:nK W G M P tb cap vs ts)(z:M g=some xs)(J:P g=j)(w:xs[j]?=some x)(hn:g ∉ ts.map Prod.fst)(hm:x.args.length<=maxLen)
 (hK:nI (λb=>M b≠none) G m (.slice o x.args.length i) x.args us) (g1:cq G m none) (hc:x.args.length<=i/\x.types.length<=r/\x.code.length<=s) (hT:dw (m.heap.size <= ·) q x.types H O) (hN:cK (m.heap.size <= ·) q x.code I Q)
 (hw:Wrote W.heap.size m q g j xs.length (.slice o x.args.length i) (.slice H x.types.length r) (.slice I x.code.length s)) :
 Put W M P tb cap vs ts g j x q:=by
 have Y:=h.ren.lt g xs z;have N:=g1.size;have C:xs≠[]:=λe=>by rw[e]at w;simp at w
 have u:∀(f:Nat->Option ao) (v:Nat->Nat),nK W m f v tb cap vs ts->f g=some xs->v g=j->(x.args=[]\/∃d,o=some ⟨d,0,none⟩/\f d=some x.args)->nK W q f (λb=>if b=g then j+1 else v b) tb cap vs ts/\q.cell? ⟨g,j*7+4,none⟩=some (.slice o x.args.length i):=λf v T t A S=>by
  have K:∀b,m.heap.size<=b->f b=none:=λb c=>by
   cases e:f b with
   | none=>rfl
   | some l=>have:=T.ren.lt b l e;omega
  refine⟨T.put t A w hc (hT.ae λb _ c=>⟨K b c,xo (xo h.ren.gr.size N) c⟩) (hN.ae λb _ c=>⟨K b c,xo (xo h.ren.gr.size N) c⟩) hw S hn,?_⟩;have⟨_,_,F,R,L,p,_⟩:=T.ren.rows g xs t C;have Z:=(qT.1 w).1;have U:=L.1;have:=qd7 (hw.2 F R L p) (g:=g) rfl (j*7+4) (.slice o x.args.length i) (by rw[qf5 od,qf5 od,ja7 od])
  rw[gI,qb1]at this;exact this
 by_cases p:x.args=[]
 .have⟨D,E⟩:=u M P (h.grow g1) z J (.inl p);refine⟨M,_,o,i,D,λ_ _ h=>h,if_pos rfl,E,.inl p,λX B b n e a=>?_⟩;rcases B b n e a with k|k
  .exact .inl (.inl k)
  .refine .inr ?_;dsimp only;split
   .rename_i y;subst y;omega
   .exact k
 .obtain⟨d,rfl⟩:=hK.some p;have V:=(qb5 hK.own d rfl).1;have⟨D,E⟩:=u _ _ (h.add hK g1 hm) (by rw[oa];exact z) (by rw[oa];exact J) (.inr ⟨d,rfl,if_pos rfl⟩);refine⟨_,_,_,i,D,λb l e=>by have:=h.ren.lt b l e;rw[oa];exact e,if_pos rfl,E,.inr ⟨d,rfl,if_pos rfl,by rw[oa,if_pos rfl],λhm=>by have:=h.XV d hm;omega,od⟩,λX B b n e a=>?_⟩
  by_cases c:b=d
  .exact .inl (.inr ⟨p,by rw[c]⟩)
  .dsimp only at e|-;rw[if_neg c]at e|-;rcases B b n e a with k|k
   .exact .inl (.inl k)
   .refine .inr ?_;split
    .rename_i y;subst y;omega
    .exact k
end
def xK{l:Array Bool}{i j:Nat}{d:Bool}(h:i≠j):(l.setIfInBounds j true).getD i d=l.getD i d:=by simp only[ue,Array.getElem?_setIfInBounds_ne (Ne.symm h)]
def Wh{l:Array Bool}{i j:Nat}(h:l.getD i false):(l.setIfInBounds j true).getD i false:=by
 by_cases e:i=j
 .subst e;have a:i<l.size:=by
   apply qb4;intro b;rw[ue,jh6 od]at h;cases h
  simp only[ue,jd2 a,jb5]
 .rw[xK e];exact h
def Ls{l:Array Bool}{i j:Nat}(h:(l.setIfInBounds j true).getD i true=false):l.getD i true=false:=by
 by_cases e:i=j
 .subst e
  by_cases a:i<l.size
  .simp[ue,jd2 a]at h
  .rw[ue,jh6 ov]at h;cases h
 .rw[xK e]at h;exact h
def Xl{l:Array Bool}{i:Nat}(h:l.getD i true=false):l.getD i false=false:=by
 by_cases a:i<l.size
 .simp only[ue,qc7 a,jb5]at h|-;exact h
 .rw[ue,jh6 od];rfl
section
variable {P:Program}{md:Region.Mode}{ops:Array Oper}{Q:Exit->Act->cg->Prop}
def xS{l:Array Bool}{j:Nat} : j∈Region.ready md ops l ↔ l.getD j true=false/\∃o,ops[j]?=some o/\∀e∈o.after,Region.binds md e->l.getD e.on false:=by
 unfold Region.ready;simp only[jb4,List.mem_range,qt,qg1];constructor
 .rintro⟨f,b,a⟩;refine⟨b,ops[j],qc7 f,λe d c=>?_⟩;rw[qc7 f,qg6,jb5,jc4]at a;have:=a e d;rw[c]at this;simpa using this
 .rintro⟨b,o,g,a⟩;refine⟨(kj.1 g).1,b,?_⟩;rw[g,qg6,jb5,jc4];intro e d
  cases c:Region.binds md e with
  | false=>rfl
  | true=>rw[a e d c];rfl
def Held (cs:List (Nat×(cg->Prop))) (l:Array Bool) (w:cg):Prop:=∀c∈cs,l.getD c.1 true=false->c.2 w
def KR (P:Program) (md:Region.Mode) (ops:Array Oper) (Q:Exit->Act->cg->Prop) (cs:List (Nat×(cg->Prop))):Nat->Array Bool->Act->cg->Prop
 | 0,l,a,w=>Region.ready md ops l=[]/\Q .normal a w
 | n+1,l,a,w=>(Region.ready md ops l=[]->Q .normal a w)/\∀i∈Region.ready md ops l,wpOp P ops Q i (λa' w'=>Held cs (l.setIfInBounds i true) w'/\KR P md ops Q cs n (l.setIfInBounds i true) a' w') a w
def Gc{cs:List (Nat×(cg->Prop))} : ∀(n:Nat) (l:Array Bool) (a:Act) (w:cg),KR P md ops Q cs n l a w->wpAny P md ops Q n l a w
 | 0,_,_,_,h=>h
 | n+1,_,_,_,h=>⟨h.1,λi d=>wpOp_mono (λb w' c=>Gc n _ b w' c.2) (h.2 i d)⟩
def Ex{cs:List (Nat×(cg->Prop))}{i:Nat}{u:Oper}{v:cm}{R:cg->Prop}(hi:ops[i]?=some u)(t:∀(j:Nat) (o:Oper) cs b,ops[j]?=some o->o.op ≠ .select cs b)(hQ:∀c a w,Q (.panic c) (a.put u.dst v) w->Q (.panic c) a w)(hn:i ∉ cs.map Prod.fst)
 (K:br) (hK:∀k,K k->∃o,ops[k]?=some o/\∃e∈o.after,Region.binds md e/\e.on=i) (hR:∀(l:Array Bool) w,(∀k,K k->l.getD k true=false)->Held cs l w->R w) :
 ∀(n:Nat) (l:Array Bool) (a:Act) (w:cg),(∀j g,ops[j]?=some g->j≠i->l.getD j true=false->(∀e∈g.after,Region.binds md e->e.on≠i)->u.apart ops g) ->
  i∈Region.ready md ops l->(∀k,K k->l.getD k true=false)->YieldsIf P ops R u v a->Held cs l w->KR P md ops Q cs n (l.setIfInBounds i true) (a.put u.dst v) w->KR P md ops Q cs (n+1) l a w:=λn=>by
 have E:∀c∈cs,c.1≠i:=λc z e=>hn (e ▸ List.mem_map_of_mem z);have self:∀(m:Nat) (l:Array Bool) (a:Act) (w:cg),(∀k,K k->l.getD k true=false)->YieldsIf P ops R u v a->Held cs l w->KR P md ops Q cs m (l.setIfInBounds i true) (a.put u.dst v) w->wpOp P ops Q i (λI w'=>Held cs (l.setIfInBounds i true) w'/\KR P md ops Q cs m (l.setIfInBounds i true) I w') a w:=λm l a w hk C B h =>
  YieldsIf.wpOp hi C (hR l w hk B) ⟨λc z e=>B c z (by rw[xK (E c z)]at e;exact e),h⟩
 have p:∀(l:Array Bool) (j:Nat),i∈Region.ready md ops l->j∈Region.ready md ops l->j≠i->j∈Region.ready md ops (l.setIfInBounds i true)/\∃g,ops[j]?=some g/\l.getD j true=false/\∀e∈g.after,Region.binds md e->e.on≠i:=λl j d N f=>by have⟨x,g,s,H⟩:=xS.1 N;have F:=Xl (xS.1 d).1;exact⟨xS.2 ⟨by rw[xK f];exact x,g,s,λe A r=>Wh (H e A r)⟩,g,s,x,λe A r Y=>by rw[<-Y,H e A r]at F;cases F⟩
 induction n with
 | zero =>
  intro l a w y d hk C B h;refine⟨λe=>(by rw[e]at d;cases d),λj M=>?_⟩
  by_cases f:j=i
  .subst f;exact self 0 l a w hk C B h
  .have x:=(p l j d M f).1;rw[h.1]at x;cases x
 | succ n ih =>
  intro l a w y d hk C B h;refine⟨λe=>(by rw[e]at d;cases d),λj M=>?_⟩
  by_cases f:j=i
  .subst f;exact self (n+1) l a w hk C B h
  .have⟨x,g,s,H,V⟩:=p l j d M f;have h5:=wpOp_putIf s (y j g s f H V) (λcs b=>t i u cs b hi) (λcs b=>t j g cs b s) hQ C (h.2 j x);refine wpOp_mono (λI w' Z=>?_) h5;have⟨U,L,hW⟩:=Z;have D:Held cs (l.setIfInBounds j true) w':=λc z e=>L c z (by
    by_cases J:c.1=j
    .rw[J]at e|-;have:=Ls e
     by_cases r:j<l.size
     .simp[ue,jd2 r]at e
     .rw[ue,jh6 od]at this;cases this
    .rw[xK J,xK (E c z)];rw[xK J]at e;exact e)
   have O:∀k,K k->(l.setIfInBounds j true).getD k true=false:=λk G=>by have⟨o,ho,e,A,r,W⟩:=hK k G;rw[xK (λX=>by subst X;rw[ho]at s;cases s;exact V e A r W)];exact hk k G
   refine⟨D,ih (l.setIfInBounds j true) I w' (λq oq hq S T=>y q oq hq S (Ls T)) ?_ O U D ?_⟩
   .have⟨m1,o,m2,m3⟩:=xS.1 d;exact xS.2 ⟨by rw[xK (Ne.symm f)];exact m1,o,m2,λe A r=>Wh (m3 e A r)⟩
   .rw[Array.setIfInBounds_comm true true f];exact hW
def dN{cs:List (Nat×(cg->Prop))}{i:Nat}{b:Oper}{v:cm}{n:Nat}{l:Array Bool}{a:Act}{w:cg}(d:Option Tmp)(f:Held cs l w)(h:KR P md ops Q cs n (l.setIfInBounds i true) (a.put d v) w)(hi:ops[i]?=some b:=by rfl)(g:b.dst=d:=by rfl)(o:Region.noSelect ops:=by kernel_rfl)(j:Region.free md ops l i:=by kernel_rfl)(m:(Region.ready md ops l).contains i:=by kernel_rfl)(e:∀c a w,Q (.panic c) (a.put b.dst v) w->Q (.panic c) a w:=by exact λ_ _ _ h=>h)(hn:(cs.map Prod.fst).contains i=false:=by rfl)
 (hy:YieldsIf P ops (λ_=>True) b v a:=by exact Or.inl ⟨by rfl,λw _=>by go_simp;with_reducible rfl⟩):KR P md ops Q cs (n+1) l a w :=
 Ex hi (Region.noSelect_spec o) e (λk=>by rw[List.contains_iff_mem.2 k]at hn;cases hn) (λ_=>False) (λ_ h=>h.elim) (λ_ _ _ _=>trivial) n l a w (Region.free_spec hi j) (by simpa using m) (λ_ h=>h.elim) hy f (by rw[g];exact h)
def fP{l:Array Bool}{w:cg} : Held [] l w:=λ_ h=>by cases h
def bL{k:Nat}{R:cg->Prop}{cs:List (Nat×(cg->Prop))}{l:Array Bool}{w:cg}(h:l.getD k true\/R w)(t:Held cs l w):Held ((k,R)::cs) l w:=λc a e=>by
 rcases kl.1 a with rfl|a
 .rcases h with h|h
  .rw[h]at e;cases e
  .exact h
 .exact t c a e
def ry{cs:List (Nat×(cg->Prop))}{i k:Nat}{b:Oper}{v:cm}{n:Nat}{l:Array Bool}{a:Act}{w:cg}{R:cg->Prop}(d:Option Tmp)(r:Held cs l w)(hc:(k,R)∈cs)(B:YieldsIf P ops R b v a)(h:KR P md ops Q cs n (l.setIfInBounds i true) (a.put d v) w)(hi:ops[i]?=some b:=by rfl)(s:b.dst=d:=by rfl)(A:Region.noSelect ops:=by kernel_rfl)(u:Region.free md ops l i:=by kernel_rfl)(z:(Region.ready md ops l).contains i:=by kernel_rfl)(p:∀c a w,Q (.panic c) (a.put b.dst v) w->Q (.panic c) a w:=by exact λ_ _ _ h=>h)(hn:(cs.map Prod.fst).contains i=false:=by rfl)
 (hk:l.getD k true=false:=by kernel_rfl) (hw:((ops[k]?).map λo=>o.after.any λe=>Region.binds md e&&e.on==i)=some true:=by kernel_rfl):KR P md ops Q cs (n+1) l a w :=
 Ex hi (Region.noSelect_spec A) p (λx=>by rw[List.contains_iff_mem.2 x]at hn;cases hn) (λq=>q=k) (λq g=>by subst g;have⟨o,y,f⟩:=qS.1 hw;have⟨e,t,j⟩:=Array.any_eq_true'.1 f;simp only[qt,jg3]at j;exact⟨o,y,e,t,j⟩) (λC w' m f=>f _ hc (m k rfl)) n l a w (Region.free_spec hi u) (by simpa using z) (λq g=>by rw[g];exact hk) B r (by rw[s];exact h)
def uP{cs:List (Nat×(cg->Prop))}{l:Array Bool}{a:Act}{w:cg}(b:Region.ready md ops l=[])(h:Q .normal a w):∀n,KR P md ops Q cs n l a w
 | 0=>⟨b,h⟩
 | n+1=>⟨λ_=>h,by rw[b];simp⟩
def wR{cs:List (Nat×(cg->Prop))}{b:Nat}{a:Act}{w:cg}(n:Nat)(hn:ops.size=n)(hm:P.follows .mixedOrders)(h:KR P .any ops Q cs n (Array.replicate n false) a w.drew):(Code.region b ops true).wp P Q a w:=wp_region_any hm (by rw[hn];exact Gc _ _ _ _ h)
def iE (P:Program) (md:Region.Mode) (ops:Array Oper) (Q:Exit->Act->cg->Prop) (cs:List (Nat×(cg->Prop))) (n:Nat) (l:Array Bool) (a:Act) (w:cg) (rs:List Nat):Prop:=∀i∈rs,wpOp P ops Q i (λa' w'=>Held cs (l.setIfInBounds i true) w'/\KR P md ops Q cs n (l.setIfInBounds i true) a' w') a w
def gU{cs:List (Nat×(cg->Prop))}{rs:List Nat}{n:Nat}{l:Array Bool}{a:Act}{w:cg}(c:Region.ready md ops l=rs)(b:rs.isEmpty=false)(h:iE P md ops Q cs n l a w rs):KR P md ops Q cs (n+1) l a w :=
 ⟨λe=>(by rw[c]at e;rw[e]at b;cases b),by rw[c];exact h⟩
def iE.nil{cs:List (Nat×(cg->Prop))}{n:Nat}{l:Array Bool}{a:Act}{w:cg} : iE P md ops Q cs n l a w []:=λ_ h=>by cases h
def iE.cons{cs:List (Nat×(cg->Prop))}{n:Nat}{l:Array Bool}{a:Act}{w:cg}{i:Nat}{o:Oper}{rs:List Nat}(d:ops[i]?=some o)
 (h:∀K:Act->cg->Prop,Shut (∀a w,Held cs (l.setIfInBounds i true) w->KR P md ops Q cs n (l.setIfInBounds i true) a w->K a w)->if Region.wanted o (yielded ops a.tmps)then Oper.wp P o a w K Q else K (a.put o.dst undef) w)
 (hs:iE P md ops Q cs n l a w rs):iE P md ops Q cs n l a w (i::rs):=λj b=>by
 rcases kl.1 b with rfl|b
 .exact wpOp_step d (λK hK=>h K (λa w c hW=>hK a w ⟨c,hW⟩))
 .exact hs j b
end
def Tu (W:cg) (l:ao) (e:Ending) (w':cg):Prop:=∃a c V,e =.returned (.slice a l.length c)/\l.length<=c/\aT (W.heap.size <= ·) w' l a V/\cq W w' none
def Sz (l:ao):Prop:=∀x∈l,x.size<=10000000
def WM (W:cg) (l:ao) (a0:bj) (k:Nat) (tv:cm) (wr:cg):Prop:=∃M P tb cap vs ts,tv =.o tb ts.length cap/\nK W wr M P tb cap vs ts/\Fin l a0 M/\tsz ts<=k/\k<=vsizes l+1/\(∀p∈ts,Sz p.2)/\Dn M P λq=>∃ys,(q,ys)∈ts/\ys≠[]
def Tt (W:cg) (l:ao) (a0:bj) (k g:Nat) (xs:ao) (a:bj) (tv iv:cm) (wr:cg):Prop:=∃(j:Nat) (M:Nat->Option ao) (P:Nat->Nat) (tb cap:Nat) (vs:bo) (ts:List (Nat×ao)),j<=xs.length/\iv =.i j/\tv =.o tb ts.length cap/\nK W wr M P tb cap vs ts/\Fin l a0 M/\YN M P g xs j a/\g ∉ ts.map Prod.fst/\tsz ts+vsizes (xs.drop j)+1<=k/\(∀p∈ts,Sz p.2)/\Dn M P λq=>(∃ys,(q,ys)∈ts/\ys≠[])\/q=g/\xs≠[]
def zi{w:cg}{B e g n c j k:Nat}{L:bo}(h:w.ownsRow B e 7 (.o g n c) n L)(a:j<n)(hk:k<7):∃v,w.cell? ⟨g,j*7+k,none⟩=some v:=by have b:=h.1;have:=qd7 h (g:=g) rfl (j*7+k) _ (qu od);rw[gI,qb1]at this;exact⟨_,this⟩
def IK{x y:Va}(h:y∈x.args):y.size<=x.size:=by have:=fO h;have:=eP x;omega
def Yo{d:Array Oper}{b:List Oper}{o:Oper}{a:Act}{Q:Exit->Act->cg->Prop}(B:Nat)(us:bo)(f:bj)(i g:Nat)(c:cg)(v:cm)(e:o.guard=none)(s x:Operand)
 (ho:o.op =.call { callee:=.builtin .append,args:=#[s,x],argTypes:=#[63,63] }) (hs:a.eval s=v) {H:Nat} (hx:a.eval x =.o H 1 1) (hH:c.heap.size=H)
 (hown:kD B c v us) (hB:B<=c.heap.size) (hlen:us.length<=8000000000)
 (h:∀v' w',kD B w' v' (us++[.slice f i g])->Gr c v w' v'->wpList prog d Q b (a.put o.dst v') w') :
 wpList prog d Q (o::b) a (c.alloc (.cells #[.slice f i g] 27)):=by
 subst hH;refine ed e s x 63 ho B 27 underlying63 Qw rfl ot v us.length us hs (qg4 hown _) _ 1 [.slice f i g] hx rfl (gZ.new _ _ _ _ _) ?_ ?_ ?_ ?_ ?_
 .intro u j;simp at j;subst j;rfl
 .unfold maxLen;omega
 .omega
 .simp;omega
 .intro v' w' k l _;exact h v' w' (by unfold kD;rw[jx];exact k) (Gr.trans (Gr.alloc (Gr.refl c v) _) l)
def zT{ok:br}{W:cg}{l:ao}{a:bj}{c:Nat}{V:bt}(h:aT ok W l a V)(hn:vsizes l<=4000000000)(hs:Sz l)(A:l.length<=20000000):Calls prog 174 #[.slice a l.length c] W (Tu W l):=by
 classical
 have HR:=jh (jZ.none ok W);have dr:l.length<=vsizes l:=kS l;have HC:=jh (wB (O:=λb=>(if ok b\/W.heap.size<=b then Option.none else some ([]:ao))≠none) (Src.row (c:=c) (h.ae λb _ D=>by simp[D])) A);have cT:Hid (l.length<=maxLen):=h.1;have HN:=jh hn;have cY:=jh hs;clear h dr hn hs A;go_enter func174,ntmps174;go_wp2_with ((go_at_call 183;(with_reducible refine HC.out.mono ?_);rintro e w1 ⟨v,us,rfl,hK,hg⟩;obtain⟨U,c0,rfl,ct⟩:=hK.slice;have HK:=jh hK;have HG:=jh hg;have cL:=jh ct;clear hg hK ct));have bq:Hid (WM W l U (vsizes l+1) (.o (w1.heap.size) 1 1) (w1.alloc (.cells #[.slice U l.length c0] 27))):=by have⟨M,P,g,h1,A,h3⟩:=KH (λb q e E=>by split at e;cases e;cases e;exact absurd rfl E) HR.out HK.out HG.out cT.out;exact⟨M,P,_,1,_,_,rfl,h1,A,by simp[tsz],jj _,λp T=>by simp at T;subst T;exact cY.out,λb q e E=>(h3 b q e E).imp (λ⟨e,hl⟩=>⟨l,by simp[e],hl⟩) id⟩
 generalize w1.alloc (.cells #[.slice U l.length c0] 27)=w2 at *;clear HK HC HR;go_loopg [3] (vsizes l+1) (λk tv wr=>WM W l U k tv wr)
 case atStart=>exact bq
 case round =>
  obtain⟨M,P,tb,cap,vs,ts,rfl,R,hF,hz,hk,z,t⟩:=hrel;rcases jf2 ts with rfl|⟨ts,⟨g,q⟩,rfl⟩
  .have⟨V',hV⟩:=Oe R.ren (λb q e E=>(t b q e E).imp (λ⟨_,h,_⟩=>by simp at h) id) hF;have HE:Hid (Tu W l (.returned (.slice U l.length c0)) wr):=⟨_,c0,V',rfl,cL,hV,R.ren.gr⟩;clear R hF hz hk hV z t;go_wp2;go_ret;exact HE
  .rw [jf3]at *;have⟨dT,a2,c2,S,aO,hE,G⟩:=R.pop;rw[Cw]at hz;have bc:ts.length<=8000000000:=by have h1:=len_tsz ts;have A:=HN.out;omega
   have bx:Hid (Tt W l U gk g q a2 (.o tb ts.length cap) (.i 0) wr):=⟨0,M,P,tb,cap,dT,ts,yv _,rfl,rfl,S,hF,hE,G,by simpa using (by omega:tsz ts+vsizes q+1<=gk),λp T=>z p (by simp[T]),λb ys e E=>(t b ys e E).imp (λ⟨zs,h,H⟩=>by
    rcases ki.1 h with h|h
    .exact .inl ⟨zs,h,H⟩
    .simp at h;exact .inr ⟨h.1,h.2 ▸ H⟩) id⟩
   have de:Hid (Sz q):=z (g,q) oe;have HK:=jh hk;have eb:ts.length<=cap:=by
    rcases S.own.2 with⟨e,_⟩|⟨_,_,_,e,_,_,m,_⟩
    .cases e
    .simp only[ye]at e;omega
   clear R S hF hE G hz hk bq z t;simp only[jx,js,qa1,qb1];go_wp2_with fail;go_loopw [3,27] (λtv iv wr=>Tt W l U gk g q a2 tv iv wr) (λ_ iv _=>q.length - (intOf iv).toNat)
   case atStart=>exact bx
   case round =>
    obtain⟨j,M,P,tb,cap,vs,ts,hj,rfl,rfl,R,hF,hE,G,hz,z,t⟩:=hrel
    by_cases f:j<q.length
    .have d1:(j:Int)<(q.length:Int):=by omega
     rcases hE with rfl|⟨rfl,hM,hP⟩
     .simp at f
     have B:=qu f;generalize q[j]=x at B;have⟨eo,dy,us,cp,J,bh,he⟩:=R.ren.rows g q hM (by rintro rfl;simp at f);have bb:j<us.length:=by rw[bh];exact f
     have hL:=(he j x us[j] B (qu bb)).2 od;have⟨aa,ac,ta,tc,na,nc,VA,VT,VN,eu,_,hA,cr,cj⟩:=hL.inv;have cE:us[j]?=some (bg x.k x.n x.a x.s aa x.args.length ac ta x.types.length tc na x.code.length nc):=by rw[qu bb,eu]
     have h7:∀u∈us,(nodeCells u).length=7:=λu hu=>by obtain⟨k,hk,rfl⟩:=qc5 hu;have⟨_,_,_,_,_,_,_,_,e,_⟩:=(he k q[k] us[k] (qu od) (qu hk)).1;rw[e];rfl
     have ad:∀(k:Nat) (v:cm),(nodeCells (bg x.k x.n x.a x.s aa x.args.length ac ta x.types.length tc na x.code.length nc))[k]?=some v->k<7->wr.cell? ⟨g,j*7+k,none⟩=some v:=λk v hv hk=>by have:=qd7 J (g:=g) rfl (j*7+k) v (by rw[flatV_get us h7 j k _ cE hk];exact hv);rw[gI,qb1]at this;exact this
     have c4:=ad 4 _ rfl od;have c5:=ad 5 _ rfl od;have c6:=ad 6 _ rfl od;have cy:vsizes (q.drop j)=x.size+vsizes (q.drop (j+1)):=by rw[km f];rw[qu f]at B;simp only[qq]at B;simp only[vsizes,B]
     have cG:=eP x;have dq:=HK.out;have du:=HN.out;have I:∀r,cq wr r (some g)->Same (λb=>M b=none) wr r:=λr A b o D f=>ke (A.block b f (λe=>by cases e;rw[hM]at D;cases D));have dn:=kS x.args;have cF:=de.out x (ka B);have⟨dc,ca,cQ⟩:=JT cF z t;have cM:Hid (∀r,cq wr r none->Calls prog 183 #[.slice aa x.args.length ac] r (IV (λb=>M b≠none) r x.args)):=λr A=>wB (Src.row ((hA.same (λb o D f=>ke (A.block b f oe))).ae λb _ D=>by simpa using D)) od;have cN:Hid (∀r,cq wr r (some g)->Calls prog 186 #[.slice ta x.types.length tc] r (Sw r x.types)):=λr A=>copiedT_any 20000000 od (jj _) ((cr.same (I r A)).ae λ_ _ _=>trivial);have cP:Hid (∀r,cq wr r (some g)->Calls prog 187 #[.slice na x.code.length nc] r (Sv r x.code)):=λr A=>copiedN_any 20000000 od (jj _) ((cj.same (I r A)).ae λ_ _ _=>trivial);have⟨HT,HF,HM,HP,dd,aj,HO⟩:=wk R hF hM hP B G J;have ak:Hid (tsz ts+(x.size+vsizes (q.drop (j+1)))+1<=gk):=by rw[cy]at hz;exact hz
     have cI:Hid (x.args.length<=maxLen):=hA.1;have da:=jh bh;clear R hF hM hP B G J hz hL ad cE h7 eu hA cr cj he cG cy dq du I dn bh bb bx aO cF z t;unfold maxLen at dy
     go_upto_region 11 with (fail)
     go_cut [] (λwx=>Put W M P tb cap vs ts g j x wx)
     case first =>
      have d:Hid (∀c∈[((7:Nat),λw:cg=>w.cell? ⟨g,j*7+4,none⟩=some (.slice aa x.args.length ac)),(12,λw=>w.cell? ⟨g,j*7+5,none⟩=some (.slice ta x.types.length tc)),(17,λw=>w.cell? ⟨g,j*7+6,none⟩=some (.slice na x.code.length nc))],c.2 wr.drew):=by
       intro c m;simp only[kl,qf2,or_false]at m;rcases m with rfl|rfl|rfl
       .exact c4
       .exact c5
       .exact c6
      refine wR (cs:=[((7:Nat),λw:cg=>w.cell? ⟨g,j*7+4,none⟩=some (.slice aa x.args.length ac)),(12,λw=>w.cell? ⟨g,j*7+5,none⟩=some (.slice ta x.types.length tc)),(17,λw=>w.cell? ⟨g,j*7+6,none⟩=some (.slice na x.code.length nc))]) 27 oA oA ?_;refine dN (i:=0) (some 33) (λc m _=>d.out c m) ?_;simp only[Act.put,zj,yW,xT];refine dN (i:=1) (some 34) (λc m _=>d.out c m) ?_;simp only[Act.put,zj,yW,xT];refine dN (i:=2) (some 35) (λc m _=>d.out c m) ?_;simp only[Act.put,zj,yW,xT];refine dN (i:=3) (some 36) (λc m _=>d.out c m) ?_;simp only[Act.put,zj,yW,xT];refine dN (i:=4) (some 37) (λc m _=>d.out c m) ?_;simp only[Act.put,zj,yW,xT];refine dN (i:=5) (some 38) (λc m _=>d.out c m) ?_;simp only[Act.put,zj,yW,xT];refine ry (i:=6) (k:=7) (some 39) (λc m _=>d.out c m) (.head _) (Or.inl ⟨by rfl,λw hw=>by dsimp only at hw;go_simp;with_reducible rfl⟩) ?_ (hi:=rfl);simp only[Act.put,zj,yW,xT];refine dN (i:=8) (some 41) (λc m _=>d.out c m) ?_;simp only[Act.put,zj,yW,xT];refine dN (i:=9) (some 42) (λc m _=>d.out c m) ?_;simp only[Act.put,zj,yW,xT];refine dN (i:=10) (some 43) (λc m _=>d.out c m) ?_;simp only[Act.put,zj,yW,xT];refine ry (i:=11) (k:=12) (some 44) (λc m _=>d.out c m) (.tail _ (.head _)) (Or.inl ⟨by rfl,λw hw=>by dsimp only at hw;go_simp;with_reducible rfl⟩) ?_ (hi:=rfl);simp only[Act.put,zj,yW,xT];refine dN (i:=13) (some 46) (λc m _=>d.out c m) ?_;simp only[Act.put,zj,yW,xT];refine dN (i:=14) (some 47) (λc m _=>d.out c m) ?_;simp only[Act.put,zj,yW,xT];refine dN (i:=15) (some 48) (λc m _=>d.out c m) ?_;simp only[Act.put,zj,yW,xT];refine ry (i:=16) (k:=17) (some 49) (λc m _=>d.out c m) (.tail _ (.tail _ (.head _))) (Or.inl ⟨by rfl,λw hw=>by dsimp only at hw;go_simp;with_reducible rfl⟩) ?_ (hi:=rfl);simp only[Act.put,zj,yW,xT];refine gU (rs:=[7]) oA rfl (iE.cons rfl (λK hK=>?_) iE.nil);go_simp;refine (cM.out wr.drew (aK (au _ _))).mono ?_;rintro e w3 ⟨v,ev,rfl,aC,ah⟩;obtain⟨a3,c3,rfl,cv⟩:=aC.slice;have dg:=oG ah (show wr.drew.cell? ⟨g,j*7+5,none⟩=_ from c5);have cb:=oG ah (show wr.drew.cell? ⟨g,j*7+6,none⟩=_ from c6);have⟨cR,L,bl⟩:=JT aC ah cv;clear aC ah cv;refine hK.out _ _ (bL (.inl rfl) (bL (.inr dg) (bL (.inr cb) fP))) ?_;clear hK K;refine gU (rs:=[12]) oA rfl (iE.cons rfl (λK hK=>?_) iE.nil);go_simp;refine (cN.out w3 (ma (Lf.Zt (aK (au _ _)) L.out))).mono ?_;rintro e w4 ⟨a4,Q,V4,rfl,cw,cl,ba⟩;have dj:=oG ba cb;have⟨cW,N,bm⟩:=JT cl ba cw;clear cl ba cw;refine hK.out _ _ (bL (.inl rfl) (bL (.inl rfl) (bL (.inr dj) fP))) ?_;clear hK K;refine gU (rs:=[17]) oA rfl (iE.cons rfl (λK hK=>?_) iE.nil);go_simp;refine (cP.out w4 (ma (Lf.Zt (Lf.Zt (aK (au _ _)) L.out) N.out))).mono ?_;rintro e w5 ⟨a5,Y,V5,rfl,cx,cn,cz⟩;have⟨cX,X,bn⟩:=JT cn cz cx;clear cn cz cx;refine hK.out _ _ (bL (.inl rfl) (bL (.inl rfl) (bL (.inl rfl) fP))) ?_;clear hK K;have an:Hid (w5.ownsRow W.heap.size 29 7 (.o g q.length cp) q.length (flat us)):=by have h:=qd6 HO.out (Lf.Zt (Lf.Zt (Lf.Zt (aK (au _ _)) L.out) N.out) X.out) (.inr Of);rw[da.out]at h;exact h
      have aq:=jh (an.stored (j*7+4) (.slice a3 x.args.length c3)).1;have ar:=jh (aq.stored (j*7+5) (.slice a4 x.types.length Q)).1;have ee:=jh (ar.stored (j*7+6) (.slice a5 x.code.length Y)).1;refine dN (i:=18) (some 51) (bL (.inl rfl) (bL (.inl rfl) (bL (.inl rfl) fP))) ?_;simp only[Act.put,zj,yW,xT];refine dN (i:=19) (some 52) (bL (.inl rfl) (bL (.inl rfl) (bL (.inl rfl) fP))) ?_;simp only[Act.put,zj,yW,xT];have ej:=an.out.frozenAt (j*7+4);have⟨o4,eg⟩:=zi (k:=4) an f ot;refine gU (rs:=[20]) oA rfl (iE.cons rfl (λK hK=>?_) iE.nil);go_simp;refine hK _ _ (bL (.inl rfl) (bL (.inl rfl) (bL (.inl rfl) fP))) ?_;clear hK K;refine dN (i:=21) (some 53) (bL (.inl rfl) (bL (.inl rfl) (bL (.inl rfl) fP))) ?_;simp only[Act.put,zj,yW,xT];refine dN (i:=22) (some 54) (bL (.inl rfl) (bL (.inl rfl) (bL (.inl rfl) fP))) ?_;simp only[Act.put,zj,yW,xT];have ek:=aq.out.frozenAt (j*7+5);have⟨o5,eh⟩:=zi (k:=5) aq f ot;refine gU (rs:=[23]) oA rfl (iE.cons rfl (λK hK=>?_) iE.nil);go_simp;refine hK _ _ (bL (.inl rfl) (bL (.inl rfl) (bL (.inl rfl) fP))) ?_;clear hK K;refine dN (i:=24) (some 55) (bL (.inl rfl) (bL (.inl rfl) (bL (.inl rfl) fP))) ?_;simp only[Act.put,zj,yW,xT];refine dN (i:=25) (some 56) (bL (.inl rfl) (bL (.inl rfl) (bL (.inl rfl) fP))) ?_;simp only[Act.put,zj,yW,xT];have en:=ar.out.frozenAt (j*7+6);have⟨o6,ei⟩:=zi (k:=6) ar f ot;refine gU (rs:=[26]) oA rfl (iE.cons rfl (λK hK=>?_) iE.nil);go_simp;refine hK _ _ (bL (.inl rfl) (bL (.inl rfl) (bL (.inl rfl) fP))) ?_;clear hK K;refine uP oA ?_ _;have cV:Hid (Put W M P tb cap vs ts g j x (((w5.setCell ⟨g,j*7+4,none⟩ (.slice a3 x.args.length c3)).setCell ⟨g,j*7+5,none⟩ (.slice a4 x.types.length Q)).setCell ⟨g,j*7+6,none⟩ (.slice a5 x.code.length Y))):=by have hd:=aK (au wr none);have ep:=kh (HT.ren.lt g q HM) (Lf.Zt hd L).size;have s4:=N.out.size;have cC:cq w5 (((w5.setCell ⟨g,j*7+4,none⟩ (.slice a3 x.args.length c3)).setCell ⟨g,j*7+5,none⟩ (.slice a4 x.types.length Q)).setCell ⟨g,j*7+6,none⟩ (.slice a5 x.code.length Y)) (some g):=aX (aX (aX (au _ _) _ _ _) _ _ _) _ _ _;have I:∀b,w3.heap.size<=b->b<w5.heap.size->∀o,(((w5.setCell ⟨g,j*7+4,none⟩ (.slice a3 x.args.length c3)).setCell ⟨g,j*7+5,none⟩ (.slice a4 x.types.length Q)).setCell ⟨g,j*7+6,none⟩ (.slice a5 x.code.length Y)).cell? ⟨b,o,none⟩=w5.cell? ⟨b,o,none⟩:=λb D f o=>ke (cC.block b f (λe=>by cases e;omega));refine UK (HT.grow hd) HM HP dd aj cI cR L ⟨bl,bm,bn⟩ ((cW.same (λb o _ f=>sameAll X b o trivial f)).same (λb o D f=>I b D f o)) ((cX.ae (λb _ D=>xo s4 D)).same (λb o D f=>I b D f o)) ⟨bZ (ma (Lf.Zt N X)) cC,λet ea J hl=>?_⟩;have h:=qd6 J (Lf.Zt N X) (.inr Of);rw[hl]at h;exact (((h.stored _ _).1.stored _ _).1.stored _ _).1
      go_wp2_with fail;go_meet;exact cV
     case rest =>
      have⟨M',P',ef,ax,C,F,ab,Q,cd,az⟩:=hcut;have Z:=az _ cQ
      by_cases h0:x.args=[]
      .have er:x.args.length=0:=by rw[h0];rfl
       have d2:¬(0:Int)<(x.args.length:Int):=od
       have HE:Hid (Tt W l U gk g q (some ⟨g,0,none⟩) (.o tb ts.length cap) (.i ((j+1:Nat):Int)) wc):=⟨j+1,M',P',tb,cap,vs,ts,f,rfl,rfl,C,HF.mono F,.inr ⟨rfl,F _ _ HM,ab⟩,aj,by have h:=ak.out;omega,ca,λb ys e E=>(Z b ys e E).imp (λh=>h.resolve_right λh=>h.1 h0) id⟩;clear az Z C F ab cd;go_wp2;go_roundw
       case rel=>exact HE
       case measure=>simp[intOf];omega
      .rcases cd with h|⟨g',rfl,ch,ck,cD,cA⟩
       .exact absurd h h0
       have ds:=List.length_pos_iff.2 h0;have d2:(0:Int)<(x.args.length:Int):=od
       have bk:vs.length=ts.length:=by have:=C.own.1;simpa using this
       have bc:vs.length<=8000000000:=by have h1:=len_tsz ts;have A:=ak.out;have h3:=HK.out;have h4:=HN.out;omega
       have cU:Hid (kD W.heap.size wc (.o tb ts.length cap) vs):=by have h:=C.own;unfold kD;rw[bk];exact h
       have cJ:Hid (W.heap.size<=wc.heap.size):=C.ren.gr.size;have db:=jh bk;have cS:=jh bc;have HE:Hid (∀v' w',kD W.heap.size w' v' (vs++[.o g' x.args.length ax])->Gr wc (.o tb ts.length cap) w' v'->Tt W l U gk g q (some ⟨g,0,none⟩) v' (.i ((j+1:Nat):Int)) w'):=λv' w' J hg=>by
        have dv:w'.ownsRow W.heap.size 27 1 v' (ts.length+1) (vs++[.o g' x.args.length ax]):=by unfold kD at J;rw[jx,db.out]at J;exact J
        obtain⟨M2,dz,cc,rfl,S,cf,dk⟩:=C.push ch ck cD dv hg;have h:=ak.out;have cG:=eP x;exact⟨j+1,M2,P',dz,cc,_,_,f,rfl,oe,S,(HF.mono F).mono cf,.inr ⟨rfl,cf _ _ (F _ _ HM),ab⟩,by simp only[qa0,qc0,qh5,ki,qv,not_or];exact⟨aj,λe=>cA e.symm⟩,by rw[Cw];omega,λp T=>by
         rcases ki.1 T with T|T
         .exact ca p T
         .simp at T;subst T;exact λy hy=>by have h1:=IK hy;have A:=dc.out;simp only at *;omega,λb ys e E=>(Z b ys (dk b ys e E) E).imp (λh=>by
         rcases h with (⟨zs,h,H⟩|h)|⟨h,e2⟩
         .exact .inl ⟨zs,by simp[h],H⟩
         .exact .inr h
         .simp at e2;subst e2;exact .inl ⟨x.args,oe,h⟩) id⟩
       clear az Z C F ab ch ck cD cA ds bk bc;go_wp2_with (at_builtin;refine Yo W.heap.size vs (some ⟨g',0,none⟩) x.args.length ax wc _ rfl _ _ rfl rfl rfl rfl cU cJ cS ?_;intro v' w' J hg;have HQ:=jh (HE v' w' J hg);clear J hg);go_roundw
       case rel=>exact HQ
       case measure=>simp[intOf];omega
    .have dp:j=q.length:=by omega
     subst dp;have d1:¬(q.length:Int)<(q.length:Int):=od
     have HE:Hid (WM W l U (tsz ts) (.o tb ts.length cap) wr/\tsz ts<gk):=by
      have hk:=HK.out;exact⟨⟨M,P,tb,cap,vs,ts,rfl,R,hF,jj _,od,z,λb ys e E=>by
       rcases t b ys e E with (h|⟨rfl,H⟩)|h
       .exact .inl h
       .rcases hE with h|⟨_,A,h3⟩
        .exact absurd h H
        .rw[A]at e;cases e;exact .inr od
       .exact .inr h⟩,od⟩
     clear R hF hE G hz z t;go_wp2_with fail
     go_roundg (tsz ts)
     case measure=>exact HE.2
     case rel=>exact HE.1
set_option maxHeartbeats 4000000
def WQ (ok:br) (w:cg) (r:Rs) (v:cm):Prop:=∃sa sc V k n a s aa al ac ta tl tc na nl nc,v =.agg #[.i r.code,.slice sa r.stack.length sc,.i k,.i n,.i a,.string s,.slice aa al ac,.slice ta tl tc,.slice na nl nc,.i r.aC,.i r.aO]/\r.stack.length<=sc/\aT ok w r.stack sa V/\aA ok w r.said (bg k n a s aa al ac ta tl tc na nl nc)
def PN (W:cg) (r:Rs) (e:Ending) (w':cg):Prop:=∃v,e =.returned v/\WQ (W.heap.size <= ·) w' r v/\cq W w' none
def Wp{ok:br}{w:cg}(e p:Int):WQ ok w ⟨e,[],zeroVa,p,0⟩ (.agg #[.i e,.n0,.i 0,.i 0,.i 0,.string ⟨#[]⟩,.n0,.n0,.n0,.i p,.i 0]) :=
 ⟨none,0,λ_=>.i 0,_,_,_,_,_,_,_,_,_,_,_,_,_,rfl,jj _,aT.nil _ _ _ _,rV _ _⟩
def I64_0:bD 0:=⟨ot,ot⟩
section
variable {ok:br}{W:cg}{en:En}{nk nn np:Int}{nz:bp}{az:aE}{na sa la:bj}{nc sc lc:Nat}{s:aw}{l:ao}{aC:Int}
abbrev ma0:Array cm:=#[.i 0,.i 0,.i 0,.i 0,.i 0,.i 0,.i 0,.i 0,.i 0,.i 0,.string ⟨#[]⟩,.n0,.n0,.n0,.n0,.n0]
def JP{B mb:Nat}{Wt w:cg}{d:cm}{us:bo}{m:br}(hm:B<=mb)(hb:w.heap[mb]?=some (.cells (yG en aC 0 0 0 0 0 ⟨#[]⟩ none 0 0 none 0 0 none 0 0 d (.n0)) 214))(n:B<=Wt.heap.size)
 (hK:nI m Wt w d l.reverse us) (hg:∀b o,b<Wt.heap.size->b≠mb->w.cell? ⟨b,o,none⟩=Wt.cell? ⟨b,o,none⟩) (hO:∀b,¬m b->b≠mb) (hgas:bD aC) :
 dm B (λb=>b=mb\/d.ownBlock=some b) w mb en aC ⟨0,0,zeroVa,l,[]⟩:=by
 refine⟨_,_,_,_,_,_,_,_,_,_,_,_,_,d,_,us,[],hb,rV _ _,⟨?_,hK.len,λi x u s q=>?_,λg e=>.inr e⟩,jd5 _ _ _ _,trivial,?_,⟨.inl rfl,λg e=>by cases e⟩,?_,?_,I64_0,I64_0,hgas⟩
 .have⟨j,a⟩:=hK.own;exact⟨j,a.imp id λ⟨g,c,f,e,p,r⟩=>⟨g,c,f,e,xo n p,r⟩⟩
 .have j:=(hK.lies i x u s q).ae (ok':=λb=>¬(b=mb\/d.ownBlock=some b)/\b≠mb) λb hb h=>⟨λa=>by
   rcases a with a|a
   .exact hO b h a
   .have:=(qb5 hK.own b a).1;omega,hO b h⟩
  exact (j.same λb o hb k=>hg b o k hb.2).ae λb _ h=>h.1
 .cases d.ownBlock<;>simp[keptBs]
 .rintro b (rfl|e)
  .exact hm
  .exact xo n (qb5 hK.own b e).1
 .rintro b (rfl|e)
  .exact⟨_,_,hb⟩
  .rcases hK.own.2 with⟨rfl,_⟩|⟨g,c,f,rfl,_,h,_⟩
   .cases e
   .simp only[Value.ownBlock,qq]at e;subst e;exact⟨_,_,h⟩
def Fx{o:Oper}{a:Act}{w:cg}{K:Act->cg->Prop}{Q:Exit->Act->cg->Prop}{b:Nat}{cs z:Array cm}{t:TypeId}(T:TypeId)(x y:Operand)(d:o.op =.store T x y)(e:a.eval x =.po b)(f:a.eval y =.agg cs)(hb:w.heap[b]?=some (.cells z t (0,0)))(g:z.size=cs.size)(hi:(prog.info? T).map (·.size)=some cs.size)(c:cs.all (·.oneCell'))
 (h:K (a.put o.dst undef) (w.setRow b cs)):o.wp prog a w K Q:=wp_store_row T x y d b cs e f t z hb hi g c h
def nZ{w:cg}{b:Nat}{z cs:Array cm}{t:TypeId}(hb:w.heap[b]?=some (.cells z t (0,0))):(w.setRow b cs).heap[b]?=some (.cells cs t (0,0)):=by simp[World.setRow,ja2,hb]
def mQ(w:cg)(b:Nat)(cs:Array cm):cq w (w.setRow b cs) (some b) :=
 ⟨rfl,rfl,rfl,by simp[World.setRow],λk c a=>by simp[World.setRow,ja2];intro e;exact absurd (by rw[e]) a⟩
def DW{B a:Nat}{d Wt t f:cg}{z:Array cm}{c:cm}{us:bo}(u:B<=d.heap.size)(m:cq d Wt none)(n:cq Wt t none)(i:cq t f none)(hm:d.heap.size<=a)(hb:f.heap[a]?=some (.cells z 214 (0,0)))(hK:nI (d.heap.size <= ·) Wt t c l.reverse us)(s:c.ownBlock≠some a)(j:bD aC) :
 ∃O,dm B O (f.setRow a (yG en aC 0 0 0 0 0 ⟨#[]⟩ none 0 0 none 0 0 none 0 0 c (.n0))) a en aC ⟨0,0,zeroVa,l,[]⟩/\cq d (f.setRow a (yG en aC 0 0 0 0 0 ⟨#[]⟩ none 0 0 none 0 0 none 0 0 c (.n0))) none/\∀b,O b->d.heap.size<=b:=by
 have r:=mQ f a (yG en aC 0 0 0 0 0 ⟨#[]⟩ none 0 0 none 0 0 none 0 0 c (.n0));have p:nI (d.heap.size <= ·) Wt (f.setRow a (yG en aC 0 0 0 0 0 ⟨#[]⟩ none 0 0 none 0 0 none 0 0 c (.n0))) c l.reverse us:=⟨iT hK.own λg e=>(r.block g (kh (qb5 hK.own g e).2 i.size) (λv=>s (e.trans v))).trans (i.block g (qb5 hK.own g e).2 oe),hK.len,hK.lies⟩;refine⟨_,JP (xo u hm) (nZ hb) (xo u m.size) p (λb o k q=>?_) (λb h e=>h od) j,aG (Lf.Zt (Lf.Zt m n) i) r hm,?_⟩
 .exact ke ((r.block b (kh k (Lf.Zt n i).size) (λe=>by cases e;exact q rfl)).trans ((Lf.Zt n i).block b k oe))
 .rintro b (rfl|e)
  .exact hm
  .exact xo m.size (qb5 hK.own b e).1
def PS(w:cg)(x y z:Obj):cq w (((w.alloc x).alloc y).alloc z) none/\(((w.alloc x).alloc y).alloc z).heap[w.heap.size]?=some x/\(((w.alloc x).alloc y).alloc z).heap[w.heap.size+1]?=some y/\(((w.alloc x).alloc y).alloc z).heap[w.heap.size+1+1]?=some z:=by
 refine⟨Lf.Zt (Lf.Zt (Lf.gb _) (Lf.gb _)) (Lf.gb _),dh (QO _ _ _) (Lf.gb _),?_,?_⟩
 .have h:=QO (w.alloc x) y z;rw[qh0]at h;exact h
 .have h:=xF ((w.alloc x).alloc y) z;rw[qh0,qh0]at h;exact h
def sH{o:Oper}{a:Act}{w:cg}{Q:Exit->Act->cg->Prop}{b:Nat}{cs z:Array cm}{t:TypeId}{d:Array Oper}{c:List Oper}(e:o.guard=none)(T:TypeId)(x y:Operand)(g:o.op =.store T x y)(i:a.eval x =.po b)(j:a.eval y =.agg cs)(hb:w.heap[b]?=some (.cells z t (0,0)))(k:z.size=cs.size)(hi:(prog.info? T).map (·.size)=some cs.size)(f:cs.all (·.oneCell'))
 (h:wpList prog d Q c (a.put o.dst undef) (w.setRow b cs)):wpList prog d Q (o::c) a w:=wpList_plain e λ_ hK=>Fx T x y g i j hb k hi f (hK _ _ h)
abbrev rs0:Array cm:=#[.i 0,.n0,.i 0,.i 0,.i 0,.string ⟨#[]⟩,.n0,.n0,.n0,.i 0,.i 0]
def Ca(w:cg)(cs:Array cm):cq w ((w.alloc (.cells rs0 193)).setRow w.heap.size cs) none/\((w.alloc (.cells rs0 193)).setRow w.heap.size cs).heap[w.heap.size]?=some (.cells cs 193) :=
 ⟨aG (Lf.gb _) (mQ _ _ _) (jj _),nZ (xF _ _)⟩
def Fz{w:cg}{g:Nat}{T:TypeId}{x0 b c d e f i j k l a:cm}(h:w.heap[g]?=some (.cells #[x0,b,c,d,e,f,i,j,k,l,a] T (0,0))) :
 w.cell? ⟨g,0,none⟩=some x0/\w.cell? ⟨g,1,none⟩=some b/\w.cell? ⟨g,2,none⟩=some c/\w.cell? ⟨g,3,none⟩=some d/\w.cell? ⟨g,4,none⟩=some e/\w.cell? ⟨g,5,none⟩=some f/\w.cell? ⟨g,6,none⟩=some i/\w.cell? ⟨g,7,none⟩=some j/\w.cell? ⟨g,8,none⟩=some k/\w.cell? ⟨g,9,none⟩=some l/\w.cell? ⟨g,10,none⟩=some a/\∀o,w.frozen? ⟨g,o,none⟩=false:=by
 simp[World.cell?,World.frozen?,h]
def Eu{k:Nat} : ∀{l:ao},(∀x∈l,x.size<=k)->vsizes l<=l.length*k
 | [],_=>by simp[vsizes]
 | x::l,h=>by have b:=h x oe;have c:=Eu (l:=l) λy a=>h y (by simp[a]);simp only[vsizes,js,qg3];omega
def Xz{O:br}{h b:cg}{a:bj}{c:Nat}{st:ao}{us:bo}(d:nI O h b (.slice a st.length c) st us)(k:cq h b none)(g:Sm st)(o:st.length<=342):Calls prog 174 #[.slice a st.length c] b (Tu b st):=by have⟨m,n,V,e,_,j⟩:=uG (ok:=λ_=>True) d.own d.len (λi x u f l=>((d.lies i x u f l).ae λ_ _ _=>trivial).same (sameAll k)) (λ_ _=>trivial) ZS;simp only[ye]at e;obtain⟨rfl,_,rfl⟩:=e;exact zT j (by have:=Eu g;omega) (λx f=>by have:=g x f;omega) od
def Wq{w:cg}{g:Nat}{T:TypeId}{x0 l b c d e f i j k a:cm}(h:w.heap[g]?=some (.cells #[x0,l,b,c,d,e,f,i,j,k,a] T (0,0)))(v:cm) :
 (w.setCell ⟨g,1,none⟩ v).heap[g]?=some (.cells #[x0,v,b,c,d,e,f,i,j,k,a] T (0,0))/\(w.setCell ⟨g,10,none⟩ v).heap[g]?=some (.cells #[x0,l,b,c,d,e,f,i,j,k,v] T (0,0)):=by
 simp[World.setCell,ja2,h]
def Ny{W wc c:cg}{O d:br}(h:cq W wc none)(hF:dB O wc d c)(f:∀b,O b->W.heap.size<=b):cq W c none :=
 ⟨hF.os.trans h.os,hF.tape.trans h.tape,hF.output.trans h.output,xo h.size hF.size,λb a g=>(hF.block b (kh a h.size) (λe=>by have:=f b e;omega)).trans (h.block b a g)⟩
def WW{c g:Int}{w:cg}{b:Nat}{T:TypeId}{k n a:Int}{s:bp}{d:bj}{al e:Nat}{ta:bj}{tl tc:Nat}{na:bj}{f nc:Nat}{l j:cm}(h:w.heap[b]?=some (.cells (yG en aC c g k n a s d al e ta tl tc na f nc l j) T)) :
 w.cell? ⟨b,7,none⟩=some (.i k)/\w.cell? ⟨b,8,none⟩=some (.i n)/\w.cell? ⟨b,9,none⟩=some (.i a)/\w.cell? ⟨b,10,none⟩=some (.string s)/\w.cell? ⟨b,11,none⟩=some (.slice d al e)/\w.cell? ⟨b,12,none⟩=some (.slice ta tl tc)/\w.cell? ⟨b,13,none⟩=some (.slice na f nc):=by
 simp[World.cell?,h,yG]
def XD{w:cg}{g:Nat}{T:TypeId}{x0 k m n o p q r s l a:cm}(h:w.heap[g]?=some (.cells #[x0,k,m,n,o,p,q,r,s,l,a] T (0,0)))(b c d e f i j:cm) :
 (((((((w.setCell ⟨g,2,none⟩ b).setCell ⟨g,3,none⟩ c).setCell ⟨g,4,none⟩ d).setCell ⟨g,5,none⟩ e).setCell ⟨g,6,none⟩ f).setCell ⟨g,7,none⟩ i).setCell ⟨g,8,none⟩ j).heap[g]?=some (.cells #[x0,k,b,c,d,e,f,i,j,l,a] T (0,0)) /\
 cq w (((((((w.setCell ⟨g,2,none⟩ b).setCell ⟨g,3,none⟩ c).setCell ⟨g,4,none⟩ d).setCell ⟨g,5,none⟩ e).setCell ⟨g,6,none⟩ f).setCell ⟨g,7,none⟩ i).setCell ⟨g,8,none⟩ j) (some g):=by
 refine⟨by simp[World.setCell,ja2,h],?_⟩;exact aX (aX (aX (aX (aX (aX (aX (au _ _) _ _ _) _ _ _) _ _ _) _ _ _) _ _ _) _ _ _) _ _ _
def RA{z:aw}{N:Nat}{VR:bt}(hset:Ah en)(hen:yH en)(hrow:cK ok W az na VR)(hnc:az.length<=nc)(hZ:z.length<=342)(hg5:aC<=50000)(hw:WT aC z (jO l az))(hD:Done aC z (fq en aC N (jO l az)))(hN:∀w2,cq W w2 none->Calls prog 170 #[af nk nn np nz na az.length nc,.slice sa s.length sc,.slice la l.length lc] w2 λe w'=>e =.returned (.bool true)/\cq w2 w' none)
 (hT:∀w2,cq W w2 none->∀O:br,(∀b,O b->W.heap.size<=b)->Calls prog 171 #[.slice la l.length lc] w2 (IV O w2 l.reverse)) (hgas:bD aC):Calls prog 156 #[.agg #[.i en.self,.i en.sender,.i en.amount,.i en.balance],af nk nn np nz na az.length nc,.slice sa s.length sc,.slice la l.length lc,.i aC] W (PN W (rsO (fq en aC N (jO l az)))):=by
 have HS:=jh (DD en);rw[hset]at HS;have⟨HN,HT,HGS,HRW⟩:=we hN hT hgas hrow;have HWK:Hid (∀O5 w5 mb,dm W.heap.size O5 w5 mb en aC (jO l az)->Calls prog 173 #[.po mb] w5 (jK W.heap.size O5 w5 mb en aC (fq en aC N (jO l az)))):=λO5 w5 mb hM=>VF hen hw hZ hg5 hM N (uW hD);have HD:=jh hD;have HNC:=jh hnc;clear hset hN hT hgas hrow hw hZ hen hg5 hD hnc;unfold af at HN|-;generalize hQ:PN W (rsO (fq en aC N (jO l az)))=Q;have HQ:=jh hQ;clear hQ;have HX:=jh (PS W (.cells #[.i en.self,.i en.sender,.i en.amount,.i en.balance] 169) (.cells #[.i nk,.i nn,.i np,.string nz,.slice na az.length nc] 62) (.cells #[.i 0,.n0,.i 0,.i 0,.i 0,.string ⟨#[]⟩,.n0,.n0,.n0,.i 0,.i 0] 193));go_enter func156,ntmps156
 go_upto_region 1 with (fail)
 generalize ((W.alloc _).alloc _).alloc _=W3 at *;have hS0:cq W3 W3 none:=au _ _;have K5:=λ(w':cg) (h:cq W3 w' none)=>And.intro (WY (dh HX.2.1 h)) (bE (dh HX.2.2.1 h))
 go_upto_region 3 with (first
  | (go_at_call 169;(with_reducible refine (HS.out _).mono ?_);rintro e w1 ⟨rfl,hg1⟩;have hS1:=Lf.Zt hS0 hg1;clear hg1)
  | (go_at_call 170;(with_reducible refine (HN.out _ (Lf.Zt HX.out.1 hS1)).mono ?_);rintro e w1 ⟨rfl,hg1⟩;have hS2:=Lf.Zt hS1 hg1;clear hg1))
 go_cut [11] (λpv wx=>∃mb O,pv =.po mb/\dm W.heap.size O wx mb en aC ⟨0,0,zeroVa,l,[]⟩/\cq w1 wx none/\∀b,O b->w1.heap.size<=b)
 case first =>
  have hW1:W.heap.size<=w1.heap.size:=xo HX.out.1.size hS2.size;have hd:cq w1 w1.drew none:=aK (au _ _);refine wR (cs:=[((4:Nat),λw:cg=>cq W3 w none)]) 7 oA oA ?_;refine ry (i:=0) (k:=4) (some 25) (bL (.inr (aK hS2)) fP) (.head _) (Or.inl ⟨by rfl,λw hw=>by have hk:=K5 w hw;go_simp;with_reducible rfl⟩) ?_ (hi:=rfl);simp only[Act.put,zj,yW,xT];refine dN (i:=1) (some 26) (bL (.inr (aK hS2)) fP) ?_;simp only[Act.put,zj,yW,xT];refine dN (i:=2) (some 27) (bL (.inr (aK hS2)) fP) ?_;simp only[Act.put,zj,yW,xT];refine gU (rs:=[3,5]) oA rfl (iE.cons rfl (λK hK=>?_) (iE.cons rfl (λK hK=>?_) iE.nil))
  .go_simp;refine (HT w1.drew (Lf.Zt (Lf.Zt HX.1 hS2) hd) (w1.heap.size <= ·) (λb hb=>od)).mono ?_;rintro e w2 ⟨sv,us,rfl,hC,hg⟩;obtain⟨ta,tc,rfl,htc⟩:=hC.slice;rw[qb3]at hC;have hS3:cq W3 w2 none:=Lf.Zt (Lf.Zt hS2 hd) hg;have hsv:(Value.slice ta l.length tc).ownBlock≠some w2.heap.size:=λe=>by have:=(qb5 hC.own _ e).2;omega
   have hnb:=xF w2 (.cells ma0 214);have⟨O,hM,hg4,hO⟩:=DW (en:=en) hW1 hd hg (Lf.gb _) (xo hd.size hg.size) hnb hC hsv HGS;refine hK _ _ (bL (.inr hS3) fP) ?_;clear hK K;refine gU (rs:=[4,5]) oA rfl (iE.cons rfl (λK hK=>?_) (iE.cons rfl (λK hK=>?_) iE.nil))
   .go_simp;refine hK _ _ (bL (.inl rfl) fP) ?_;clear hK K;refine gU (rs:=[5]) oA rfl (iE.cons rfl (λK hK=>?_) iE.nil);go_simp;refine hK _ _ (bL (.inl rfl) fP) ?_;clear hK K;refine gU (rs:=[6]) oA rfl (iE.cons rfl (λK hK=>?_) iE.nil);rw[if_pos (show Region.wanted _ _ from rfl)];refine Fx 214 _ _ rfl rfl rfl hnb rfl oA oA ?_;refine hK _ _ (bL (.inl rfl) fP) ?_;clear hK K;refine uP oA ?_ _;go_wp2_with fail;go_meet;exact⟨_,O,rfl,hM,hg4,hO⟩
   .go_simp;refine hK _ _ (bL (.inr (Lf.Zt hS3 (Lf.gb _))) fP) ?_;clear hK K;refine gU (rs:=[4]) oA rfl (iE.cons rfl (λK hK=>?_) iE.nil);go_simp;refine hK _ _ (bL (.inl rfl) fP) ?_;clear hK K;refine gU (rs:=[6]) oA rfl (iE.cons rfl (λK hK=>?_) iE.nil);rw[if_pos (show Region.wanted _ _ from rfl)];refine Fx 214 _ _ rfl rfl rfl hnb rfl oA oA ?_;refine hK _ _ (bL (.inl rfl) fP) ?_;clear hK K;refine uP oA ?_ _;go_wp2_with fail;go_meet;exact⟨_,O,rfl,hM,hg4,hO⟩
  .go_simp;refine hK _ _ (bL (.inr (Lf.Zt (aK hS2) (Lf.gb _))) fP) ?_;clear hK K;refine gU (rs:=[3]) oA rfl (iE.cons rfl (λK hK=>?_) iE.nil);go_simp;have hd2:cq w1 (w1.drew.alloc (.cells ma0 214)) none:=Lf.Zt hd (Lf.gb _);have hnb0:=xF w1.drew (.cells ma0 214);refine (HT (w1.drew.alloc (.cells ma0 214)) (Lf.Zt (Lf.Zt HX.1 hS2) hd2) (w1.heap.size <= ·) (λb hb=>od)).mono ?_;rintro e w2 ⟨sv,us,rfl,hC,hg⟩;obtain⟨ta,tc,rfl,htc⟩:=hC.slice;rw[qb3]at hC;have hnb:=dh hnb0 hg;have hsv:(Value.slice ta l.length tc).ownBlock≠some w1.drew.heap.size:=λe=>by have:=(qb5 hC.own _ e).1;rw[qh0]at this;omega
   have⟨O,hM,hg4,hO⟩:=DW (en:=en) hW1 hd2 hg (au _ _) hd.size hnb hC hsv HGS;refine hK _ _ (bL (.inr (Lf.Zt (Lf.Zt hS2 hd2) hg)) fP) ?_;clear hK K;refine gU (rs:=[4]) oA rfl (iE.cons rfl (λK hK=>?_) iE.nil);go_simp;refine hK _ _ (bL (.inl rfl) fP) ?_;clear hK K;refine gU (rs:=[6]) oA rfl (iE.cons rfl (λK hK=>?_) iE.nil);rw[if_pos (show Region.wanted _ _ from rfl)];refine Fx 214 _ _ rfl rfl rfl hnb rfl oA oA ?_;refine hK _ _ (bL (.inl rfl) fP) ?_;clear hK K;refine uP oA ?_ _;go_wp2_with fail;go_meet;exact⟨_,O,rfl,hM,hg4,hO⟩
 case rest =>
  obtain⟨mb,O,rfl,hM,hg4,hO⟩:=hcut;have hk:=K5 wc (Lf.Zt hS2 hg4);have HEN:Hid (Calls prog 172 #[.po mb,.agg #[.slice na az.length nc,.i 0,.n0,.n0]] wc (K8 W.heap.size O wc mb en aC (jO l az))):=Dp (f:=⟨az,0,[],[]⟩) (VW:=λ_=>.i 0) (VA:=λ_=>.i 0) hM (yv _) ⟨show (0:Int)≠67 by decide,I64_0⟩ ((HRW.ae (ok':=λb=>¬O b) λb hb _ h=>by have:=hO b h;have:=hS2.size;have:=HX.out.1.size;omega).same (λb o _ hlt=>ke ((Lf.Zt (Lf.Zt HX.1 hS2) hg4).block b hlt oe))) (cK.nil _ _ _ _) (aT.nil _ _ _ _) ⟨HNC,jj _,jj _⟩
  have HO:=jh hO;have HG4:Hid (cq W wc none):=Lf.Zt (Lf.Zt HX.1 hS2) hg4;have HB10:=jh (dh HX.2.2.2 (Lf.Zt hS2 hg4));have HLT:Hid (W.heap.size+1+1<w1.heap.size):=kh (kj.1 HX.2.2.2).1 hS2.size;have HBF:Hid (∀O6 w6 wf,dB O wc O6 w6->cq w6 wf none->cq W wf none/\wf.heap[W.heap.size+1+1]?=some (.cells rs0 193)):=λO6 w6 wf hF hg=>by refine⟨Lf.Zt (Ny HG4 hF λb hb=>by have:=HO.out b hb;have:=HLT.out;omega) hg,dh ((hF.block _ (kj.1 HB10).1 λh=>?_).trans HB10) hg⟩;have:=HO.out _ h;have:=HLT.out;omega
  clear hM hg4 hO K5 HX HT HN HS hS0 hS1 hS2 HRW HNC
  cases ho:fq en aC N (jO l az)with
  | stuck=>exact absurd ho (uW HD)
  | no er m =>
   rw[ho]at HWK HD HQ;clear ho;have hE:=HD.out.2
   by_cases h10:er=10
   .subst h10;have hz:=(hE.resolve_right od).2.2
    go_upto_region 7 with (first
     | (go_at_call 172;(with_reducible refine HEN.out.mono ?_);rintro e w5 ⟨rfl,O5,hF5,hM5⟩;have HF5:=jh hF5;have HM5:=jh hM5;clear hF5 hM5)
     | (go_at_call 173;(with_reducible refine (HWK.out _ _ _ HM5.out).mono ?_);rintro e w6 ⟨O6,hF6,_,rfl,m',e1,e2,k,n,a,s',aa,al,ac,ta,tl,tc,na',nl,nc',sv,fv,us,fs,h6⟩;have z6:=iM h6.blk;rw[e1]at z6;have HL:=Ca w6 #[.i 10,.n0,.i 0,.i 0,.i 0,.string ⟨#[]⟩,.n0,.n0,.n0,.i m.paid,.i 0];have HF6:=jh (HF5.out.trans hF6);have H6:=jh h6;have HSD:=jh h6.said;rw[e2]at HSD;clear hF6 h6 e1 e2)
     | (refine sH rfl 193 _ _ rfl rfl rfl (xF _ _) rfl oA oA ?_))
    simp only[rs0]at HL;generalize World.setRow _ _ _=w7 at *;have z7:=Fz HL.2;have z8:=WW (dh H6.blk HL.1);have hnb:=xF w7 (.cells #[.i k,.i n,.i a,.string s',.slice aa al ac,.slice ta tl tc,.slice na' nl nc'] 29);have HRE:Hid (Calls prog 174 #[.o (w7.heap.size) 1 1] (w7.alloc (.cells #[.i k,.i n,.i a,.string s',.slice aa al ac,.slice ta tl tc,.slice na' nl nc'] 29)) (Tu (w7.alloc (.cells #[.i k,.i n,.i a,.string s',.slice aa al ac,.slice ta tl tc,.slice na' nl nc'] 29)) [m.said])):=by
     have hL:=((HSD.ae (ok':=λ_=>True) λ_ _ _=>trivial).same (sameAll (Lf.Zt HL.1 (Lf.gb (.cells #[.i k,.i n,.i a,.string s',.slice aa al ac,.slice ta tl tc,.slice na' nl nc'] 29)))));refine zT (V:=λ_=>bg k n a s' aa al ac ta tl tc na' nl nc') (a:=some ⟨w7.heap.size,0,none⟩) (l:=[m.said]) (ok:=λ_=>True) ⟨by unfold maxLen;simp,λi hi=>?_,λi hi=>?_⟩ (by simp[vsizes];omega) (λx hx=>by simp at hx;subst hx;omega) oe
     .obtain rfl:i=0:=by simpa using hi
      exact⟨_,_,rfl,trivial,k,n,a,s',aa,al,ac,ta,tl,tc,na',nl,nc',rfl,oe⟩
     .obtain rfl:i=0:=by simpa using hi
      exact hL
    have HL7:=jh HL;clear HL z6 hk hE hnb;simp only[Act.put]
    go_upto_region 12 with ((go_at_call 174;(refine HRE.mono ?_);rintro e w9 ⟨a3,c3,V3,rfl,hc3,hR3,hg9⟩;obtain⟨b,o,rfl,hb,k2,n2,a2,s2,aa2,jX,ac2,ta2,sM,tc2,na2,nl2,nc2,hv,hc7⟩:=hR3.2.1 0 oe;have hl9:=hR3.2.2 0 oe;rw[hv]at hl9;simp only[jh3,qf3,List.getElem_cons_zero,qe7]at hc7 hl9 hc3;have hg9':=Lf.Zt (Lf.gb _) hg9;have hb9:=dh HL7.2 hg9';have z9:=Fz hb9;have HS9:=jh (XD hb9 (.i k2) (.i n2) (.i a2) (.string s2) (.slice aa2 jX ac2) (.slice ta2 sM tc2) (.slice na2 nl2 nc2));have HL9:=jh hl9;have HG9:=jh hg9';clear hR3 hg9 hl9 hg9' hb9))
    generalize World.setCell _ _ _=wf at *;have z11:=Fz HS9.1;have hw11:cq w6 wf none:=aG (Lf.Zt HL7.1 HG9) HS9.2 (jj _);have⟨hgf,hbf⟩:=HBF.out _ _ _ HF6 hw11;have HFI:Hid (Q (.returned (.agg #[.i 10,.n0,.i k2,.i n2,.i a2,.string s2,.slice aa2 jX ac2,.slice ta2 sM tc2,.slice na2 nl2 nc2,.i m.paid,.i 0])) (wf.setRow (W.heap.size+1+1) #[.i 10,.n0,.i k2,.i n2,.i a2,.string s2,.slice aa2 jX ac2,.slice ta2 sM tc2,.slice na2 nl2 nc2,.i m.paid,.i 0])):=by
     rw[<-HQ.out];have hsz:W.heap.size+1+1<w6.heap.size/\w6.heap.size<w7.heap.size:=⟨kh (kj.1 HB10).1 HF6.size,(kj.1 HL7.2).1⟩;refine⟨_,rfl,⟨none,0,λ_=>.i 0,k2,n2,a2,s2,aa2,jX,ac2,ta2,sM,tc2,na2,nl2,nc2,rfl,jj _,aT.nil _ _ _ _,?_⟩,aG hgf (mQ _ _ _) od⟩;refine (HL9.same (λb o hb hlt=>?_)).ae (λb _ hb=>?_)
     .rw[qh0]at hb;exact ke (((mQ _ _ _).block b (kh hlt HS9.2.size) (λe=>by cases e;omega)).trans (HS9.2.block b hlt (λe=>by cases e;omega)))
     .rw[qh0]at hb;omega
    clear z9 z7 z8 hc7 hgf hz hb hc3;go_wp2_with (refine sH rfl 193 _ _ rfl rfl rfl hbf rfl oA oA ?_);exact jb3 (results_cell_row results156 _ _ (W.heap.size+1+1) _ _ _ _ rfl (nZ hbf) underlying193 rfl oA) rfl HFI
   .have b0:(er==0)=false:=by simp;omega
    have b10:(er==10)=false:=by simpa using h10
    go_upto_region 7 with (first
     | (go_at_call 172;(with_reducible refine HEN.out.mono ?_);rintro e w5 ⟨rfl,O5,hF5,hM5⟩;have HF5:=jh hF5;have HM5:=jh hM5;clear hF5 hM5)
     | (go_at_call 173;(with_reducible refine (HWK.out _ _ _ HM5.out).mono ?_);rintro e w6 ⟨O6,hF6,_,rfl,m',e1,e2,k,n,a,s',aa,al,ac,ta,tl,tc,na',nl,nc',sv,fv,us,fs,h6⟩;have z6:=iM h6.blk;rw[e1]at z6;have HL:=Ca w6 #[.i er,.n0,.i 0,.i 0,.i 0,.string ⟨#[]⟩,.n0,.n0,.n0,.i m.paid,.i 0];have HF6:=jh (HF5.out.trans hF6);have H6:=jh h6;clear hF6 h6 e1)
     | (refine sH rfl 193 _ _ rfl rfl rfl (xF _ _) rfl oA oA ?_))
    simp only[rs0]at HL;generalize World.setRow _ _ _=w7 at *;have z7:=Fz HL.2;have⟨hgf,hbf⟩:=HBF.out _ _ _ HF6 HL.1;have HFI:Hid (Q (.returned (.agg #[.i er,.n0,.i 0,.i 0,.i 0,.string ⟨#[]⟩,.n0,.n0,.n0,.i m.paid,.i 0])) (w7.setRow (W.heap.size+1+1) #[.i er,.n0,.i 0,.i 0,.i 0,.string ⟨#[]⟩,.n0,.n0,.n0,.i m.paid,.i 0])):=by rw[<-HQ.out];refine⟨_,rfl,?_,aG hgf (mQ _ _ _) od⟩;rw[show rsO (.no er m)=⟨er,[],zeroVa,m.paid,0⟩ by simp only[rsO,if_neg h10]];exact Wp _ _
    clear HL z6 hk hgf hE h10;simp only[Act.put];go_wp2_with (refine sH rfl 193 _ _ rfl rfl rfl hbf rfl oA oA ?_);exact jb3 (results_cell_row results156 _ _ (W.heap.size+1+1) _ _ _ _ rfl (nZ hbf) underlying193 rfl oA) rfl HFI
  | go m =>
   rw[ho]at HWK HD;rw[ho]at HQ;clear ho
   go_upto_region 7 with (first
    | (go_at_call 172;(with_reducible refine HEN.out.mono ?_);rintro e w5 ⟨rfl,O5,hF5,hM5⟩;have HF5:=jh hF5;have HM5:=jh hM5;clear hF5 hM5)
    | (go_at_call 173;(with_reducible refine (HWK.out _ _ _ HM5.out).mono ?_);rintro e w6 ⟨O6,hF6,rfl,k,n,a,s',aa,al,ac,ta,tl,tc,na',nl,nc',sv,fv,us,fs,h6⟩;have z6:=iM h6.blk;have HL:=Ca w6 #[.i 0,.n0,.i 0,.i 0,.i 0,.string ⟨#[]⟩,.n0,.n0,.n0,.i m.paid,.i 0];have HF6:=jh (HF5.out.trans hF6);have H6:=jh h6;clear hF6 h6)
    | (refine sH rfl 193 _ _ rfl rfl rfl (xF _ _) rfl oA oA ?_))
   simp only[rs0]at HL;generalize World.setRow _ _ _=w7 at *;have z7:=Fz HL.2;have HL7:=jh HL;clear HL z6 hk;simp only[Act.put]
   go_upto_region 9 with (fail)
   have hw7:cq w6 w7.drew none:=aK HL7.1;have HTU:Hid (Calls prog 171 #[sv] w7.drew (IV O6 w7.drew m.st)):=by have h:=Cy (H6.grow hw7).jL.src (by have:=HD.out.2.2.2.2.2;simp;omega);rw[jf6]at h;exact h
   refine wR (cs:=[((2:Nat),λw:cg=>cq w6 w none),((9:Nat),λw:cg=>cq w6 w none)]) 10 oA oA ?_;refine dN (i:=0) (some 43) (bL (.inr hw7) (bL (.inr hw7) fP)) ?_;simp only[Act.put,zj,yW,xT];refine ry (i:=1) (k:=2) (some 44) (bL (.inr hw7) (bL (.inr hw7) fP)) (.head _) (Or.inl ⟨by rfl,λw hw=>by have hk:=iM (dh H6.out.blk hw);go_simp;with_reducible rfl⟩) ?_ (hi:=rfl);simp only[Act.put,zj,yW,xT];refine dN (i:=4) (some 47) (bL (.inr hw7) (bL (.inr hw7) fP)) ?_;simp only[Act.put,zj,yW,xT];refine ry (i:=5) (k:=9) (some 48) (bL (.inr hw7) (bL (.inr hw7) fP)) (.tail _ (.head _)) (Or.inl ⟨by rfl,λw hw=>by have hk:=iM (dh H6.out.blk hw);go_simp;with_reducible rfl⟩) ?_ (hi:=rfl);simp only[Act.put,zj,yW,xT];refine gU (rs:=[2]) oA rfl (iE.cons rfl (λK hK=>?_) iE.nil);go_simp;refine HTU.out.mono ?_;rintro e w8 ⟨v,us2,rfl,hC,hg8⟩;obtain⟨a2,c2,rfl,hc2⟩:=hC.slice;have hw8:cq w6 w8 none:=Lf.Zt hw7 hg8;refine hK.out _ _ (bL (.inl rfl) (bL (.inr hw8) fP)) ?_;clear hK K;refine gU (rs:=[3]) oA rfl (iE.cons rfl (λK hK=>?_) iE.nil);go_simp;refine (Xz hC hg8 HD.out.2.2.2.2.1.sm HD.out.2.2.2.2.2).mono ?_;rintro e w9 ⟨a3,c3,V3,rfl,hc3,hR3,hg9⟩;have hw9:cq w6 w9 none:=Lf.Zt hw8 hg9;refine hK.out _ _ (bL (.inl rfl) (bL (.inr hw9) fP)) ?_;clear hK K;have hb9:=dh HL7.out.2 (Lf.Zt (aK (au w7 none)) (Lf.Zt hg8 hg9));have z9:=Fz hb9;have hs9:=(Wq hb9 (.slice a3 m.st.length c3)).1;have z10:=Fz hs9;have hs10:=(Wq hs9 (.i m.aO)).2;refine dN (i:=6) (some 49) (bL (.inl rfl) (bL (.inr hw9) fP)) ?_;simp only[Act.put,zj,yW,xT];have hw10:cq w6 (w9.setCell ⟨w6.heap.size,1,none⟩ (.slice a3 m.st.length c3)) none:=aG hw9 (aX (au _ _) _ _ _) (jj _);refine gU (rs:=[7]) oA rfl (iE.cons rfl (λK hK=>?_) iE.nil);go_simp;refine hK.out _ _ (bL (.inl rfl) (bL (.inr hw10) fP)) ?_;clear hK K;refine dN (i:=8) (some 50) (bL (.inl rfl) (bL (.inr hw10) fP)) ?_;simp only[Act.put,zj,yW,xT];refine gU (rs:=[9]) oA rfl (iE.cons rfl (λK hK=>?_) iE.nil);go_simp;refine hK.out _ _ (bL (.inl rfl) (bL (.inl rfl) fP)) ?_;clear hK K;have hw11:cq w6 ((w9.setCell ⟨w6.heap.size,1,none⟩ (.slice a3 m.st.length c3)).setCell ⟨w6.heap.size,10,none⟩ (.i m.aO)) none:=aG hw10 (aX (au _ _) _ _ _) (jj _);refine uP oA ?_ _;have z11:=Fz hs10;clear z7 z9 z10 hs9 hb9;have⟨hgf,hbf⟩:=HBF.out _ _ _ HF6.out hw11;have HFI:Hid (Q (.returned (.agg #[.i 0,.slice a3 m.st.length c3,.i 0,.i 0,.i 0,.string ⟨#[]⟩,.n0,.n0,.n0,.i m.paid,.i m.aO])) (((w9.setCell ⟨w6.heap.size,1,none⟩ (.slice a3 m.st.length c3)).setCell ⟨w6.heap.size,10,none⟩ (.i m.aO)).setRow (W.heap.size+1+1) #[.i 0,.slice a3 m.st.length c3,.i 0,.i 0,.i 0,.string ⟨#[]⟩,.n0,.n0,.n0,.i m.paid,.i m.aO])):=by
    rw[<-HQ.out];have hsz:W.heap.size+1+1<w6.heap.size/\w6.heap.size<w8.heap.size:=⟨kh (kj.1 HB10).1 HF6.size,kh (kj.1 HL7.2).1 hg8.size⟩;refine⟨_,rfl,⟨a3,c3,V3,_,_,_,_,_,_,_,_,_,_,_,_,_,rfl,hc3,?_,rV _ _⟩,aG hgf (mQ _ _ _) od⟩;refine (hR3.same (λb o hb hlt=>?_)).ae (λb _ hb=>?_)
    .exact ke (((mQ _ _ _).block b (by simpa using hlt) (λe=>by cases e;omega)).trans ((aX (aX (au w9 (some w6.heap.size)) _ _ _) _ _ _).block b hlt (λe=>by cases e;omega)))
    .have:=hgf.size;omega
   clear hR3 hC hgf;go_wp2_with (refine sH rfl 193 _ _ rfl rfl rfl hbf rfl oA oA ?_);exact jb3 (results_cell_row results156 _ _ (W.heap.size+1+1) _ _ _ _ rfl (nZ hbf) underlying193 rfl oA) rfl HFI
def Vb{b:Bool}(d:Ah en=b)(o:b->∀g,cq W g none->Calls prog 170 #[af nk nn np nz na az.length nc,.slice sa s.length sc,.slice la l.length lc] g λe w'=>e =.returned (.bool false)/\cq g w' none) :
 Calls prog 156 #[.agg #[.i en.self,.i en.sender,.i en.amount,.i en.balance],af nk nn np nz na az.length nc,.slice sa s.length sc,.slice la l.length lc,.i aC] W (PN W (rsO .stuck)):=by
 have n:=jh (DD en);rw[d]at n;have f:=jh o;clear d o;unfold af at f|-;generalize p:PN W (rsO .stuck)=Q;have q:=jh p;clear p;have HX:=jh (PS W (.cells #[.i en.self,.i en.sender,.i en.amount,.i en.balance] 169) (.cells #[.i nk,.i nn,.i np,.string nz,.slice na az.length nc] 62) (.cells rs0 193));have j:Hid (∀w',cq W w' none->Q (.returned (.agg #[.i 14,.n0,.i 0,.i 0,.i 0,.string ⟨#[]⟩,.n0,.n0,.n0,.i 0,.i 0])) (w'.setRow (W.heap.size+1+1) #[.i 14,.n0,.i 0,.i 0,.i 0,.string ⟨#[]⟩,.n0,.n0,.n0,.i 0,.i 0])):=λw' r=>by rw[<-q.out];exact⟨_,rfl,Wp _ _,aG r (mQ _ _ _) od⟩
 cases b
 all_goals
  try replace f:=jh (f rfl)
  go_enter func156,ntmps156
  go_upto_region 1 with (fail)
  simp only[rs0]at HX;generalize ((W.alloc _).alloc _).alloc _=k at *;have m:cq k k none:=au _ _;have t:=λ(w':cg) (h:cq k w' none)=>And.intro (WY (dh HX.2.1 h)) (bE (dh HX.2.2.1 h));go_wp2_with (first
   | (go_at_call 169;(with_reducible refine (n.out _).mono ?_);rintro e u ⟨rfl,c⟩;have a:=Lf.Zt m c;clear c)
   | (go_at_call 170;(with_reducible refine (f.out _ (Lf.Zt HX.out.1 a)).mono ?_);rintro e g ⟨rfl,c⟩;replace a:=Lf.Zt a c;clear c)
   | (refine sH rfl 193 _ _ rfl rfl rfl (dh HX.2.2.2 a) rfl oA oA ?_))
  exact jb3 (results_cell_row results156 _ _ (W.heap.size+1+1) _ _ _ _ rfl (nZ (dh HX.2.2.2 a)) underlying193 rfl oA) rfl (j _ (Lf.Zt HX.1 a))
end
