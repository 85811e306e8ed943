import Derived.Test.YtgfdimkbfnpepaaGreatKtZav
import Derived.Deep.LoopGhost
import Derived.Deep.RegionWith
namespace Go.Proofs.YtgfdimkbfnpepaaGreat
set_option linter.all false
open Go.Proofs.Tryz
open Go.ChangeShapes Go.WideShapes Go.ChangeAt Go.RowKit
set_option maxRecDepth 100000
set_option maxHeartbeats 1000000
def tH (N:br) (M:Nat->Option an) (w:bx) (x:Va) (u:cg):Prop:=∃aa ac ta tc na nc VT VN,u=bg x.k x.n x.a x.s aa x.args.length ac ta x.types.length tc na x.code.length nc/\(bD x.k/\bD x.n/\bD x.a/\x.s.size<=maxLen)/\(x.args.length<=ac/\x.args.length<=maxLen/\x.types.length<=tc/\x.code.length<=nc) /\
 dw (λb=>M b=none/\N b) w x.types ta VT/\cK (λb=>M b=none/\N b) w x.code na VN/\((∃VA,aT (λb=>M b=none/\N b) w x.args aa VA)\/∃g,aa=some ⟨g,0,none⟩/\M g=some x.args/\x.args≠[])
def tH.mono{N c:br}{M:Nat->Option an}{w:bx}{x:Va}{u:cg}(h:tH N M w x u)(a:∀b,N b->c b):tH c M w x u:=by have⟨g,i,r,s,p,q,f,e,o,j,k,n,m,l⟩:=h;exact⟨g,i,r,s,p,q,f,e,o,j,k,n.ae λb _ h=>⟨h.1,a b h.2⟩,m.ae λb _ h=>⟨h.1,a b h.2⟩,l.imp (λ⟨d,h⟩=>⟨d,h.ae λb _ h=>⟨h.1,a b h.2⟩⟩) id⟩
structure jZ (W w:bx) (M:Nat->Option an) (P:Nat->Nat):Prop where
 rows:∀g xs,M g=some xs->xs≠[]->W.heap.size<=g/\xs.length<=maxLen/\∃us cap,dF W.heap.size w (.o g xs.length cap) us/\us.length=xs.length/\∀(i:Nat) (x:Va) (u:cg),xs[i]?=some x->us[i]?=some u->tH (λb=>P g<=i\/W.heap.size<=b) M w x u/\(P g<=i->aA (λb=>M b=none) w x u)
 gr:cm W w none
 lt:∀g xs,M g=some xs->g<w.heap.size
def Et{x:Va} : ∀{l:an},x∈l->x.size<=vsizes l
 | y::l,h=>by
  simp only[vsizes];rcases zr.1 h with rfl|h
  .omega
  .have:=Et h;omega
def Dn (M:Nat->Option an) (P:Nat->Nat) (X:br):Prop:=∀g xs,M g=some xs->xs≠[]->X g\/xs.length<=P g
def Kj{W w:bx}{M:Nat->Option an}{P:Nat->Nat}(hR:jZ W w M P)(hD:Dn M P λ_=>False):∀(N:Nat) (x:Va) (u:cg),x.size<=N->tH (W.heap.size <= ·) M w x u->aA (W.heap.size <= ·) w x u:=λN=>by
 induction N with
 | zero=>intro x u hx;have:=eP x;omega
 | succ N ih =>
  intro x u hx ⟨aa,ac,ta,tc,na,nc,VT,VN,hu,h1,h2,hT,hN,hA⟩;have key:∃VA,aT (W.heap.size <= ·) w x.args aa VA:=by
   rcases hA with⟨VA,h⟩|⟨g,rfl,hg,hB⟩
   .exact⟨VA,h.ae λb _ h=>h.2⟩
   .have⟨hW,hm,us,cap,ho,hl,he⟩:=hR.rows g x.args hg hB;have⟨a,c,V,e,_,h⟩:=uG (ok:=(W.heap.size <= ·)) ho hl (λi y v hy hv=>ih y v (by
     have h3:=Et (zj hy);have⟨k,n,a,s,args,types,code⟩:=x;simp only[Va.size,Va.args]at hx h3;omega) ((he i y v hy hv).1.mono λb hb=>by
     rcases hb with hb|hb
     .have:=(hD g _ hg hB).resolve_left id;have:=(qv.1 hy).1;omega
     .exact hb)) (λb e=>by simp only[Value.ownBlock,qk]at e;subst e;exact hW) hm
    simp only[kl]at e;obtain⟨rfl,_⟩:=e;exact⟨V,h⟩
  have⟨VA,hV⟩:=key;rw[hu];have⟨k,n,a,s,args,types,code⟩:=x;exact aA.mk (hnk:=⟨h2.2.2.2,h2.2.2.1⟩) VA VT VN hV.1 h2.1 h1.2.2.2 h1.1 h1.2.1 h1.2.2.1 (hT.ae λb _ h=>h.2) (hN.ae λb _ h=>h.2) hV.2.1 hV.2.2
def tH.of{N:br}{M:Nat->Option an}{w:bx}{x:Va}{u:cg}(h:aA (λb=>M b=none) w x u)(c:∀b,N b):tH N M w x u:=by
 cases h with
 | mk V g f e d l o m n i hN j k =>
  rename_i a;exact⟨_,_,_,_,_,_,g,f,rfl,⟨o,m,n,l⟩,⟨d,e,a.2,a.1⟩,i.ae λb _ h=>⟨h,c b⟩,hN.ae λb _ h=>⟨h,c b⟩,.inl ⟨V,(show aT (λb=>M b=none) w _ _ V from ⟨e,j,k⟩).ae λb _ h=>⟨h,c b⟩⟩⟩
def tH.move{N:br}{M c:Nat->Option an}{w w':bx}{x:Va}{u:cg}(h:tH N M w x u)(v:∀b,b<w.heap.size->M b=none->c b=none)(d:∀g xs,M g=some xs->c g=some xs)(A:∀b o,M b=none->b<w.heap.size->w'.cell? ⟨b,o,none⟩=w.cell? ⟨b,o,none⟩):tH N c w' x u:=by
 have⟨n,p,E,F,C,D,m,l,B,q,r,y,hN,s⟩:=h;have a:Same (λb=>M b=none/\c b=none/\N b) w w':=λb o f i=>A b o f.1 i;have j:∀b,b<w.heap.size->M b=none/\N b->M b=none/\c b=none/\N b:=λb f h=>⟨h.1,v b f h.1,h.2⟩;refine⟨n,p,E,F,C,D,m,l,B,q,r,((y.ae j).same a).ae (λ_ _ h=>h.2),((hN.ae j).same a).ae (λ_ _ h=>h.2),?_⟩;rcases s with⟨k,h⟩|⟨g,e,z,t⟩
 .exact .inl ⟨k,((h.ae j).same a).ae (λ_ _ h=>h.2)⟩
 .exact .inr ⟨g,e,d _ _ z,t⟩
def nU{M a:Nat->Option an}{w w':bx}{x:Va}{u:cg}(h:aA (λb=>M b=none) w x u)(e:∀b,b<w.heap.size->M b=none->a b=none)(f:∀b o,M b=none->b<w.heap.size->w'.cell? ⟨b,o,none⟩=w.cell? ⟨b,o,none⟩):aA (λb=>a b=none) w' x u :=
 ((h.ae (ok':=λb=>M b=none/\a b=none) λb c h=>⟨h,e b c h⟩).same (λb o c d=>f b o c.1 d)).ae (λ_ _ h=>h.2)
def jZ.Qu{W w w':bx}{M:Nat->Option an}{P:Nat->Nat}{t:Option Nat}(h:jZ W w M P)(a:cm w w' t)(d:∀b,t=some b->M b=some []/\W.heap.size<=b):jZ W w' M P :=
 ⟨λg f e j=>by
  have⟨r,s,A,cap,z,y,l⟩:=h.rows g f e j;have m:∀b o,M b=none->b<w.heap.size->w'.cell? ⟨b,o,none⟩=w.cell? ⟨b,o,none⟩:=λb o k c=>qt (a.block b c (λe=>by rw[(d b e.symm).1]at k;cases k));exact⟨r,s,A,cap,yq z a (.inr (λq=>by rw[(d g q.symm).1]at e;cases e;exact j rfl)),y,λi x u p n=>⟨(l i x u p n).1.move (λ_ _ h=>h) (λ_ _ h=>h) m,λv=>nU ((l i x u p n).2 v) (λ_ _ h=>h) m⟩⟩,by
  cases t with
  | none=>exact aJ h.gr a
  | some b=>exact aG h.gr a (d b rfl).2,λg f e=>ki (h.lt g f e) a.size⟩
def jZ.grow{W w w':bx}{M:Nat->Option an}{P:Nat->Nat}(h:jZ W w M P)(a:cm w w' none):jZ W w' M P:=h.Qu a (λ_ e=>by cases e)
def jZ.aside{W w:bx}{M:Nat->Option an}{P:Nat->Nat}{v:bx}{t:Nat}{o:Option Nat}(h:jZ W v M P)(c:cm v w o)(n:∀b,o=some b->M b=some []/\W.heap.size<=b)(p:v.heap.size<=t)(f:t<w.heap.size):jZ W w (λb=>if b=t then some []else M b) P:=by
 have q:∀b,b<v.heap.size->M b=none->(if b=t then some []else M b)=none:=λb l e=>by rw[oa];exact e
 have k:∀b a,M b=some a->(if b=t then some []else M b)=some a:=λb a e=>by rw[if_neg (by have:=h.lt b a e;omega)];exact e
 have s:∀b o,M b=none->b<v.heap.size->w.cell? ⟨b,o,none⟩=v.cell? ⟨b,o,none⟩:=λb o l m=>qt (c.block b m (λe=>by rw[(n b e.symm).1]at l;cases l));refine⟨λg a e j=>?_,(h.Qu c n).gr,λg a e=>?_⟩
 .split at e
  .cases e;exact absurd rfl j
  .have⟨p,f,vs,A,D,C,r⟩:=h.rows g a e j;exact⟨p,f,vs,A,yq D c (.inr (λd=>by rw[(n g d.symm).1]at e;cases e;exact j rfl)),C,λi x u z y=>⟨(r i x u z y).1.move q k s,λB=>nU ((r i x u z y).2 B) q s⟩⟩
 .split at e
  .rename_i d;rw[d];exact f
  .exact ki (h.lt g a e) c.size
def jZ.add{W w w':bx}{M:Nat->Option an}{P:Nat->Nat}{l:an}{g cap:Nat}{us:bk}(h:jZ W w M P)(f:nI (λb=>M b≠none) w w' (.o g l.length cap) l us)(p:cm w w' none)(J:l.length<=maxLen) :
 jZ W w' (λb=>if b=g then some l else M b) (λb=>if b=g then 0 else P b):=by
 have B:=(zp f.own g rfl).1;have z:∀b,b<w.heap.size->M b=none->(if b=g then some l else M b)=none:=λb n e=>by rw[oa];exact e
 have A:∀b a,M b=some a->(if b=g then some l else M b)=some a:=λb a e=>by rw[if_neg (by have:=h.lt b a e;omega)];exact e
 have D:∀b o,M b=none->b<w.heap.size->w'.cell? ⟨b,o,none⟩=w.cell? ⟨b,o,none⟩:=λb o _ C=>qt (p.block b C ot);refine⟨λk a e G=>?_,aJ h.gr p,λk a e=>(by split at e;rename_i v;rw[v];exact (zp f.own g rfl).2;exact ki (h.lt k a e) p.size)⟩;split at e
 .rename_i v;cases e;subst v;have m:∀(i:Nat) (x:Va) (u:cg),l[i]?=some x->us[i]?=some u->aA (λb=>(if b=k then some l else M b)=none) w' x u:=λi x u d c=>nU ((f.lies i x u d c).ae (ok':=λb=>M b=none) λb _ n=>by simpa using n) z D;refine⟨km h.gr.size B,J,us,cap,?_,f.len,λi x u d c=>⟨tH.of (m i x u d c) (λb=>.inl ot),λ_=>m i x u d c⟩⟩;have⟨y,F⟩:=f.own;refine⟨y,F.imp id ?_⟩;rintro⟨q,s,t,e,n,r⟩;exact⟨q,s,t,e,km h.gr.size n,r⟩
 .rename_i j;have⟨m,y,vs,s,K,I,E⟩:=h.rows k a e G;refine⟨m,y,vs,s,yq K p (.inr oT),I,λi x u d c=>⟨by have h:=(E i x u d c).1.move z A D;simpa[j]using h,λH=>nU ((E i x u d c).2 (by simpa[j]using H)) z D⟩⟩
def Dx(k n a:Int)(s:bo)(r:bj)(al ac:Nat)(ta:bj)(tl tc:Nat)(na:bj)(t nc:Nat)(b:bj)(f d:Nat)(o:bj)(jJ p:Nat)(g:bj)(m j:Nat):∀(us:bk),(∀u∈us,(nodeCells u).length=7)->∀i,us[i]?=some (bg k n a s r al ac ta tl tc na t nc) ->
 flat (us.set i (bg k n a s b f d o jJ p g m j))=(((flat us).set (i*7+4) (.slice b f d)).set (i*7+5) (.slice o jJ p)).set (i*7+6) (.slice g m j)
 | [],_,i,h=>by simp at h
 | x::us,q,0,h=>by simp only[kA,qk]at h;subst h;rfl
 | x::us,q,i+1,h=>by
  have w:=q x ot;have y:=Dx k n a s r al ac ta tl tc na t nc b f d o jJ p g m j us (λu v=>q u (by simp[v])) i (by simpa using h);have e:∀(l:bk) (k:Nat) (c:cg),(nodeCells x++l).set ((i+1)*7+k) c=nodeCells x++l.set (i*7+k) c:=λl k c=>by rw[jf0 _ _ od,w,show (i+1)*7+k - 7=i*7+k by omega]
  rw[xj,show flat (x::us.set i (bg k n a s b f d o jJ p g m j))=nodeCells x++flat (us.set i (bg k n a s b f d o jJ p g m j)) from rfl,y,show flat (x::us)=nodeCells x++flat us from rfl,e,e,e]
def Wrote (B:Nat) (w wx:bx) (g i n:Nat) (x y z:cg):Prop:=cm w wx (some g)/\∀us cap,dF B w (.o g n cap) us->us.length=n->wx.ownsRow B 36 7 (.o g n cap) n ((((flat us).set (i*7+4) x).set (i*7+5) y).set (i*7+6) z)
def jZ.put{W w z:bx}{M:Nat->Option an}{P:Nat->Nat}{g i:Nat}{xs:an}{x:Va}{A ta na:bj}{ac tc nc:Nat}{VT VN:bt}(h:jZ W w M P)(I:M g=some xs)(hP:P g=i)(v:xs[i]?=some x)(hc:x.args.length<=ac/\x.types.length<=tc/\x.code.length<=nc)
 (hT:dw (λb=>M b=none/\W.heap.size<=b) z x.types ta VT) (hN:cK (λb=>M b=none/\W.heap.size<=b) z x.code na VN) (hw3:Wrote W.heap.size w z g i xs.length (.slice A x.args.length ac) (.slice ta x.types.length tc) (.slice na x.code.length nc)) (q:x.args=[]\/∃d,A=some ⟨d,0,none⟩/\M d=some x.args) :
 jZ W z M (λb=>if b=g then i+1 else P b):=by
 have⟨S,g2,l,cap,U,E,D⟩:=h.rows g xs I (λe=>by rw[e]at v;simp at v);have f:=hw3.1;have F:∀b o,M b=none->b<w.heap.size->z.cell? ⟨b,o,none⟩=w.cell? ⟨b,o,none⟩:=λb o C K=>qt (f.block b K (λe=>by cases e;rw[I]at C;cases C));have B:∀b,b<w.heap.size->M b=none->M b=none:=λ_ _ h=>h;have r:∀b p,M b=some p->M b=some p:=λ_ _ h=>h;have J:i<l.length:=by rw[E];exact (qv.1 v).1
 have h7:∀u∈l,(nodeCells u).length=7:=λu c=>by obtain⟨k,hk,rfl⟩:=ub c;have⟨_,_,_,_,_,_,_,_,e,_⟩:=(D k xs[k] l[k] (qn od) (qn hk)).1;rw[e];rfl
 have⟨G,H,Q,R,N,O,Y,X,eu,k1,k2,_⟩:=(D i x l[i] v (qn J)).1;have L:l[i]?=some (bg x.k x.n x.a x.s G x.args.length H Q x.types.length R N x.code.length O):=by rw[qn J,eu]
 refine⟨λd p e hB=>?_,aG h.gr f S,λd p e=>ki (h.lt d p e) f.size⟩
 by_cases j:d=g
 .subst j;rw[I]at e;cases e;refine⟨S,g2,l.set i (bg x.k x.n x.a x.s A x.args.length ac ta x.types.length tc na x.code.length nc),cap,?_,by simp[E],λk y u m c=>?_⟩
  .unfold dF at U|-;rw[jf2,Dx _ _ _ _ _ _ _ _ _ _ _ _ _ _ _ _ _ _ _ _ _ _ l h7 i L,E];exact hw3.2 l cap U E
  .by_cases ek:k=i
   .subst ek;rw[v]at m;cases m;rw[qh3 J]at c;cases c;refine⟨⟨A,ac,ta,tc,na,nc,VT,VN,rfl,k1,⟨hc.1,k2.2.1,hc.2.1,hc.2.2⟩,hT.ae λb _ h=>⟨h.1,.inr h.2⟩,hN.ae λb _ h=>⟨h.1,.inr h.2⟩,?_⟩,λt=>?_⟩
    .by_cases T:x.args=[]
     .exact .inl ⟨λ_=>.i 0,by rw[T];exact aT.nil _ _ _ _⟩
     rcases q with q|⟨d,q,hA2⟩
     .exact .inl ⟨λ_=>.i 0,by rw[q];exact aT.nil _ _ _ _⟩
     .exact .inr ⟨d,q,hA2,T⟩
    .simp at t;omega
   .rw[qe3 od]at c;exact⟨((D k y u m c).1.move B r F).mono (λb C=>C.imp (λh=>oB) id),λt=>nU ((D k y u m c).2 (by simp at t;omega)) B F⟩
 .have⟨q1,q2,vs,Z,qo,ql,V⟩:=h.rows d p e hB;exact⟨q1,q2,vs,Z,yq qo f (.inr (by simp[Value.ownBlock];exact j)),ql,λk y u m c=>⟨by have h:=(V k y u m c).1.move B r F;simpa[j]using h,λt=>nU ((V k y u m c).2 (by simpa[j]using t)) B F⟩⟩
def jZ.none(ok:br)[DecidablePred ok](W:bx):jZ W W (λb=>if ok b\/W.heap.size<=b then Option.none else some []) (λ_=>0):=⟨λg c e a=>(by split at e;cases e;cases e;exact absurd rfl a),bM _ _,λg c e=>(by split at e;cases e;omega)⟩
def Qw:(prog.info? 28).map (λi=>(i.zero,i.size,i.bytes))=some (some (.n0),1,24):=oA
def tsz:List (Nat×an)->Nat
 | []=>0
 | (_,xs)::l=>vsizes xs+1+tsz l
def Cw(g:Nat)(xs:an):∀l,tsz (l++[(g,xs)])=tsz l+(vsizes xs+1)
 | []=>by simp[tsz]
 | (_,a)::l=>by simp only[qd0,tsz,Cw g xs l];omega
def len_tsz:∀l,l.length<=tsz l
 | []=>zE _
 | (_,a)::l=>by have:=len_tsz l;simp only[jt,tsz];omega
def YN (M:Nat->Option an) (P:Nat->Nat) (g:Nat) (xs:an) (j:Nat) (a:bj):Prop:=xs=[]\/a=some ⟨g,0,none⟩/\M g=some xs/\P g=j
structure nK (W w:bx) (M:Nat->Option an) (P:Nat->Nat) (tb cap:Nat) (vs:bk) (ts:List (Nat×an)):Prop where
 ren:jZ W w M P
 own:w.ownsRow W.heap.size 28 1 (.o tb ts.length cap) ts.length vs
 OT:∀(i g:Nat) (xs:an),ts[i]?=some (g,xs)->∃a c,vs[i]?=some (Value.slice a xs.length c)/\YN M P g xs 0 a
 nd:(ts.map Prod.fst).Nodup
 blk:M tb=some []
 XV:∀g∈ts.map Prod.fst,g<w.heap.size
section
variable {W w w':bx}{M:Nat->Option an}{P:Nat->Nat}{tb cap:Nat}{vs:bk}{ts:List (Nat×an)}
def nK.grow(h:nK W w M P tb cap vs ts)(a:cm w w' none):nK W w' M P tb cap vs ts :=
 ⟨h.ren.grow a,yq h.own a (.inr oT),h.OT,h.nd,h.blk,λg b=>ki (h.XV g b) a.size⟩
def nK.low(h:nK W w M P tb cap vs ts):W.heap.size<=tb:=(zp h.own tb rfl).1
def nK.pop{g:Nat}{xs:an}(h:nK W w M P tb cap vs (ts++[(g,xs)])):∃j a c,nK W w M P tb cap j ts/\w.cell? ⟨tb,ts.length,none⟩=some (.slice a xs.length c)/\YN M P g xs 0 a/\g ∉ ts.map Prod.fst:=by
 have n:=h.own.1;simp at n;have⟨a,c,e,u⟩:=h.OT ts.length g xs ot;have v:vs=vs.take ts.length++[.slice a xs.length c]:=by have k:=qb2 (l:=vs) (i:=ts.length) od;rw[<-n,qh4]at k;rw[qn od]at e;simp only[qk]at e;rw[<-e];exact k
 have o:=h.own;rw[v,qT]at o;have f:=h.nd;rw[qb5,qc6]at f;refine⟨vs.take ts.length,a,c,⟨h.ren,Av o,λi s x m=>?_,f.1,h.blk,λg d=>h.XV g (by rw[qb5];exact jb6 _ d)⟩,?_,u,λd=>f.2.2 _ d g ot rfl⟩
 .have b:=(qv.1 m).1;have⟨p,q,r,t⟩:=h.OT i s x (by rw[jz b];exact m);exact⟨p,q,by rw[List.getElem?_take_of_lt b];exact r,t⟩
 .have:=qb0 h.own (g:=tb) rfl ts.length _ e;rw[gI,qa2]at this;exact this
def nK.add{l:an}{g c:Nat}{us:bk}(h:nK W w M P tb cap vs ts)(m:nI (λb=>M b≠none) w w' (.o g l.length c) l us)(d:cm w w' none)(f:l.length<=maxLen) :
 nK W w' (λb=>if b=g then some l else M b) (λb=>if b=g then 0 else P b) tb cap vs ts:=by
 have r:=(zp m.own g rfl).1;refine⟨h.ren.add m d f,yq h.own d (.inr oT),λi j n s=>?_,h.nd,?_,λg f=>ki (h.XV g f) d.size⟩
 .have⟨a,c,e,q⟩:=h.OT i j n s;refine⟨a,c,e,q.imp id λ⟨o,k,p⟩=>?_⟩;have:=h.ren.lt j n k;exact⟨o,by dsimp only;rw[oa];exact k,by dsimp only;rw[oa];exact p⟩
 .have:=h.ren.lt tb _ h.blk;show (if tb=g then _ else _)=_;rw[oa];exact h.blk
def nK.put{f:bx}{g i:Nat}{xs:an}{x:Va}{l ta na:bj}{ac tc nc:Nat}{VT VN:bt}(h:nK W w M P tb cap vs ts)(j:M g=some xs)(s:P g=i)(n:xs[i]?=some x)(hc:x.args.length<=ac/\x.types.length<=tc/\x.code.length<=nc)
 (hT:dw (λb=>M b=none/\W.heap.size<=b) f x.types ta VT) (hN:cK (λb=>M b=none/\W.heap.size<=b) f x.code na VN) (hw:Wrote W.heap.size w f g i xs.length (.slice l x.args.length ac) (.slice ta x.types.length tc) (.slice na x.code.length nc)) (hA:x.args=[]\/∃d,l=some ⟨d,0,none⟩/\M d=some x.args) (hn:g ∉ ts.map Prod.fst) :
 nK W f M (λb=>if b=g then i+1 else P b) tb cap vs ts:=by
 refine⟨h.ren.put j s n hc hT hN hw hA,yq h.own hw.1 (.inr (λe=>?_)),λk d u m=>?_,h.nd,h.blk,λg t=>ki (h.XV g t) hw.1.size⟩
 .simp only[Value.ownBlock,qk]at e;subst e;rw[h.blk]at j;cases j;simp at n
 .have⟨a,c,e,r⟩:=h.OT k d u m;refine⟨a,c,e,r.imp id λ⟨o,p,q⟩=>⟨o,p,?_⟩⟩;dsimp only;rw[if_neg (λe=>hn (by rw[<-e];exact ud.2 ⟨_,zj m,rfl⟩))];exact q
def nK.push{g c:Nat}{xs:an}{v':cg}(h:nK W w M P tb cap vs ts)(B:M g=some xs)(I:P g=0)(hn:g ∉ ts.map Prod.fst)
 (ho:w'.ownsRow W.heap.size 28 1 v' (ts.length+1) (vs++[.o g xs.length c])) (hg:Gr w (.o tb ts.length cap) w' v') :
 ∃o f d,v' =.o f (ts.length+1) d/\nK W w' o P f d (vs++[.o g xs.length c]) (ts++[(g,xs)])/\(∀b l,M b=some l->o b=some l)/\∀b l,o b=some l->l≠[]->M b=some l:=by
 have x:=h.own.1;simp at x;have⟨f,d,e⟩:∃f d,v' =.o f (ts.length+1) d:=by
  rcases ho.2 with⟨_,N⟩|⟨j,K,E,e,_⟩
  .omega
  .exact⟨_,_,e⟩
 subst e;have k:∀o:Nat->Option an,(∀b l,M b=some l->o b=some l)->∀(i j:Nat) (v:an),(ts++[(g,xs)])[i]?=some (j,v)->∃a y,(vs++[Value.o g xs.length c])[i]?=some (Value.slice a v.length y)/\YN o P j v 0 a:=λo q i j v s=>by
  by_cases A:i<ts.length
  .rw[jz A]at s;have⟨a,y,e,H⟩:=h.OT i j v s;exact⟨a,y,by rw[jz od];exact e,H.imp id λ⟨F,z,G⟩=>⟨F,q _ _ z,G⟩⟩
  .have t:=(qv.1 s).1;simp at t;obtain rfl:i=ts.length:=by omega
   simp at s;obtain⟨rfl,rfl⟩:=s;exact⟨_,c,by rw[<-x];simp,.inr ⟨rfl,q _ _ B,I⟩⟩
 have u:((ts++[(g,xs)]).map Prod.fst).Nodup:=by rw[qb5,qc6];refine⟨h.nd,ot,λa J b C e=>?_⟩;simp at C;subst C;exact hn (e ▸ J)
 have n:w'.ownsRow W.heap.size 28 1 (.o f (ts++[(g,xs)]).length d) (ts++[(g,xs)]).length (vs++[.o g xs.length c]):=by rw[qT];exact ho
 have D:∀b,(Value.o tb ts.length cap).ownBlock=some b->M b=some []/\W.heap.size<=b:=λb e=>by simp only[Value.ownBlock,qk]at e;subst e;exact⟨h.blk,h.low⟩
 have m:∀j∈(ts++[(g,xs)]).map Prod.fst,j<w'.heap.size:=λj p=>by
  rw[qb5,xb]at p;rcases p with p|p
  .exact ki (h.XV j p) hg.1.size
  .simp at p;subst p;exact ki (h.ren.lt _ _ B) hg.1.size
 rcases hg.2 with e|⟨L,e,z⟩
 .simp only[Value.ownBlock,qk]at e;subst e;exact⟨M,_,d,rfl,⟨h.ren.Qu hg.1 D,n,k M (λ_ _ h=>h),u,h.blk,m⟩,λ_ _ h=>h,λ_ _ h _=>h⟩
 .simp only[Value.ownBlock,qk]at e;subst e;have r:∀b l,M b=some l->(if b=f then some []else M b)=some l:=λb l e=>by rw[if_neg (by have:=h.ren.lt b l e;omega)];exact e
  exact⟨λb=>if b=f then some []else M b,f,d,rfl,⟨h.ren.aside hg.1 D z (World.ownsRow.lt ho f rfl).2,n,k _ r,u,if_pos rfl,m⟩,r,λb l e x=>by dsimp only at e;split at e;cases e;exact absurd rfl x;exact e⟩
def Fin (l:an) (a0:bj) (M:Nat->Option an):Prop:=l=[]\/∃g,a0=some ⟨g,0,none⟩/\M g=some l
def Fin.mono{l:an}{c:bj}{a:Nat->Option an}(h:Fin l c M)(f:∀b l,M b=some l->a b=some l):Fin l c a:=h.imp id λ⟨g,d,e⟩=>⟨g,d,f _ _ e⟩
def nI.slice{O:br}{v:cg}{l:an}{us:bk}(h:nI O W w v l us):∃a c,v =.slice a l.length c/\l.length<=c:=by
 rcases h.own.2 with⟨rfl,b⟩|⟨g,cap,d,rfl,_,_,e,_⟩
 .exact⟨none,0,by rw[<-h.len,b],by rw[<-h.len,b];exact qS _⟩
 .exact⟨_,cap,by rw[h.len],by rw[<-h.len];exact e⟩
def nI.some{O:br}{a:bj}{c:Nat}{l:an}{us:bk}(h:nI O W w (.slice a l.length c) l us)(f:l≠[]):∃g,a =.some ⟨g,0,none⟩:=by
 rcases h.own.2 with⟨e,d⟩|⟨g,cap,b,e,_⟩
 .exact absurd (jx (by rw[<-h.len,d])) f
 .simp only[kl]at e;exact⟨g,e.1⟩
def KH{l:an}{c:bj}{d:Nat}{us:bk}(y:Dn M P λ_=>False)(R:jZ W W M P)(z:nI (λb=>M b≠none) W w (.slice c l.length d) l us)(r:cm W w none)(j:l.length<=maxLen) :
 ∃p t g,nK W (w.alloc (.cells #[.slice c l.length d] 28)) p t w.heap.size 1 [.slice c l.length d] [(g,l)]/\Fin l c p/\Dn p t (λq=>q=g/\l≠[]):=by
 have x:=jj w (.cells #[.slice c l.length d] 28);have k:=aK (w:=w) (.cells #[.slice c l.length d] 28);have f:w.heap.size<(w.alloc (.cells #[.slice c l.length d] 28)).heap.size:=(qq.1 x).1;have h:(w.alloc (.cells #[.slice c l.length d] 28)).ownsRow W.heap.size 28 1 (.o (w.heap.size) 1 1) 1 [.slice c l.length d] :=
  ⟨rfl,.inr ⟨w.heap.size,1,_,rfl,r.size,x,qS _,On,rfl,rfl⟩⟩
 by_cases o:l=[]
 .exact⟨_,_,w.heap.size,⟨(R.grow r).aside k (λ_ e=>by cases e) (qS _) f,h,λi v n a=>by
   match i,a with
   | 0,a =>
    simp only[kA,qk,kh]at a;obtain⟨rfl,rfl⟩:=a;exact⟨c,d,rfl,.inl o⟩
   | i+1,a=>simp at a,ot,if_pos rfl,λg j=>by simp at j;subst j;exact f⟩,.inl o,λb n e m=>by dsimp only at e;split at e;cases e;exact absurd rfl m;exact .inr ((y b n e m).resolve_left id)⟩
 .obtain⟨g,rfl⟩:=z.some o;have u:=R.add z r j;have s:=u.lt g l (if_pos rfl);refine⟨_,_,g,⟨u.aside k (λ_ e=>by cases e) (qS _) f,h,λi v n a=>?_,ot,if_pos rfl,λv j=>by simp at j;subst j;exact Nat.lt_trans s f⟩,.inr ⟨g,rfl,?_⟩,?_⟩
  .match i,a with
   | 0,a =>
    simp only[kA,qk,kh]at a;obtain⟨rfl,rfl⟩:=a;exact⟨_,d,rfl,.inr ⟨rfl,by dsimp only;rw[oa,if_pos rfl],by dsimp only;rw[if_pos rfl]⟩⟩
   | i+1,a=>simp at a
  .dsimp only;rw[oa,if_pos rfl]
  .intro b n e m;dsimp only at e|-;split at e
   .cases e;exact absurd rfl m
   .by_cases A:b=g
    .exact .inl ⟨A,o⟩
    .rw[if_neg A]at e|-;exact .inr ((y b n e m).resolve_left id)
def Oe{l:an}{k:bj}(R:jZ W w M P)(m:Dn M P λ_=>False)(hF:Fin l k M):∃V,aT (W.heap.size <= ·) w l k V:=by
 by_cases f:l=[]
 .exact⟨λ_=>.i 0,by rw[f];exact aT.nil _ _ _ _⟩
 .rcases hF with h|⟨g,rfl,n⟩
  .exact absurd h f
  .have⟨p,r,x,cap,s,j,q⟩:=R.rows g l n f;have u:=(m g l n f).resolve_left id;have⟨a,c,V,e,_,h⟩:=uG (ok:=(W.heap.size <= ·)) s j (λi y v o t=>Kj R m _ y v (qS _) ((q i y v o t).1.mono λb d=>by
    rcases d with d|d
    .have:=(qv.1 o).1;omega
    .exact d)) (λb e=>by simp only[Value.ownBlock,qk]at e;subst e;exact p) r
   simp only[kl]at e;obtain⟨rfl,_⟩:=e;exact⟨V,h⟩
def Put (W:bx) (M:Nat->Option an) (P:Nat->Nat) (tb cap:Nat) (vs:bk) (ts:List (Nat×an)) (g j:Nat) (x:Va) (wx:bx):Prop:=∃M' P' aa ac,nK W wx M' P' tb cap vs ts/\(∀b l,M b=some l->M' b=some l)/\P' g=j+1/\wx.cell? ⟨g,j*7+4,none⟩=some (.slice aa x.args.length ac)/\(x.args=[]\/∃g',aa=some ⟨g',0,none⟩/\M' g'=some x.args/\P' g'=0/\g' ∉ ts.map Prod.fst/\g'≠g)/\∀X,Dn M P X->Dn M' P' λq=>X q\/x.args≠[]/\aa=some ⟨q,0,none⟩
def UK{g j r s i:Nat}{xs:an}{x:Va}{w0 m q:bx}{us:bk}{o H I:bj}{O Q:bt}(h:nK W w0 M P tb cap vs ts)(z:M g=some xs)(J:P g=j)(w:xs[j]?=some x)(hn:g ∉ ts.map Prod.fst)(C:x.args.length<=maxLen)
 (hK:nI (λb=>M b≠none) w0 m (.slice o x.args.length i) x.args us) (g1:cm w0 m none) (hc:x.args.length<=i/\x.types.length<=r/\x.code.length<=s) (hT:dw (m.heap.size <= ·) q x.types H O) (hN:cK (m.heap.size <= ·) q x.code I Q)
 (hw:Wrote W.heap.size m q g j xs.length (.slice o x.args.length i) (.slice H x.types.length r) (.slice I x.code.length s)) :
 Put W M P tb cap vs ts g j x q:=by
 have Y:=h.ren.lt g xs z;have N:=g1.size;have D:xs≠[]:=λe=>by rw[e]at w;simp at w
 have u:∀(f:Nat->Option an) (v:Nat->Nat),nK W m f v tb cap vs ts->f g=some xs->v g=j->(x.args=[]\/∃d,o=some ⟨d,0,none⟩/\f d=some x.args)->nK W q f (λb=>if b=g then j+1 else v b) tb cap vs ts/\q.cell? ⟨g,j*7+4,none⟩=some (.slice o x.args.length i):=λf v T t A S=>by
  have K:∀b,m.heap.size<=b->f b=none:=λb c=>by
   cases e:f b with
   | none=>rfl
   | some l=>have:=T.ren.lt b l e;omega
  refine⟨T.put t A w hc (hT.ae λb _ c=>⟨K b c,km (km h.ren.gr.size N) c⟩) (hN.ae λb _ c=>⟨K b c,km (km h.ren.gr.size N) c⟩) hw S hn,?_⟩;have⟨_,_,G,R,L,p,_⟩:=T.ren.rows g xs t D;have Z:=(qv.1 w).1;have U:=L.1;have:=qb0 (hw.2 G R L p) (g:=g) rfl (j*7+4) (.slice o x.args.length i) (by rw[qe3 od,qe3 od,qh3 od])
  rw[gI,qa2]at this;exact this
 by_cases p:x.args=[]
 .have⟨E,F⟩:=u M P (h.grow g1) z J (.inl p);refine⟨M,_,o,i,E,λ_ _ h=>h,if_pos rfl,F,.inl p,λX B b n e a=>?_⟩;rcases B b n e a with k|k
  .exact .inl (.inl k)
  .refine .inr ?_;dsimp only;split
   .rename_i y;subst y;omega
   .exact k
 .obtain⟨d,rfl⟩:=hK.some p;have V:=(zp hK.own d rfl).1;have⟨E,F⟩:=u _ _ (h.add hK g1 C) (by rw[oa];exact z) (by rw[oa];exact J) (.inr ⟨d,rfl,if_pos rfl⟩);refine⟨_,_,_,i,E,λb l e=>by have:=h.ren.lt b l e;rw[oa];exact e,if_pos rfl,F,.inr ⟨d,rfl,if_pos rfl,by rw[oa,if_pos rfl],λC=>by have:=h.XV d C;omega,od⟩,λX B b n e a=>?_⟩
  by_cases c:b=d
  .exact .inl (.inr ⟨p,by rw[c]⟩)
  .dsimp only at e|-;rw[if_neg c]at e|-;rcases B b n e a with k|k
   .exact .inl (.inl k)
   .refine .inr ?_;split
    .rename_i y;subst y;omega
    .exact k
end
def xK{l:Array Bool}{i j:Nat}{d:Bool}(h:i≠j):(l.setIfInBounds j true).getD i d=l.getD i d:=by simp only[ye,jg3 (Ne.symm h)]
def Wh{l:Array Bool}{i j:Nat}(h:l.getD i false):(l.setIfInBounds j true).getD i false:=by
 by_cases e:i=j
 .subst e;have a:i<l.size:=by
   apply jf1;intro b;rw[ye,jh0 od]at h;cases h
  simp only[ye,qf6 a,jb5]
 .rw[xK e];exact h
def Ls{l:Array Bool}{i j:Nat}(h:(l.setIfInBounds j true).getD i true=false):l.getD i true=false:=by
 by_cases e:i=j
 .subst e
  by_cases a:i<l.size
  .simp[ye,qf6 a]at h
  .rw[ye,jh0 oB]at h;cases h
 .rw[xK e]at h;exact h
def Xl{l:Array Bool}{i:Nat}(h:l.getD i true=false):l.getD i false=false:=by
 by_cases a:i<l.size
 .simp only[ye,qb3 a,jb5]at h|-;exact h
 .rw[ye,jh0 od];rfl
section
variable {P:Program}{md:Region.Mode}{ops:Array Oper}{Q:Exit->Act->bx->Prop}
def xS{l:Array Bool}{j:Nat} : j∈Region.ready md ops l ↔ l.getD j true=false/\∃o,ops[j]?=some o/\∀e∈o.after,Region.binds md e->l.getD e.on false:=by
 unfold Region.ready;simp only[jd2,List.mem_range,qu,qh7];constructor
 .rintro⟨f,b,a⟩;refine⟨b,ops[j],qb3 f,λe d c=>?_⟩;rw[qb3 f,qh0,jb5,jc3]at a;have:=a e d;rw[c]at this;simpa using this
 .rintro⟨b,o,g,a⟩;refine⟨(qq.1 g).1,b,?_⟩;rw[g,qh0,jb5,jc3];intro e d
  cases c:Region.binds md e with
  | false=>rfl
  | true=>rw[a e d c];rfl
def Held (cs:List (Nat×(bx->Prop))) (l:Array Bool) (w:bx):Prop:=∀c∈cs,l.getD c.1 true=false->c.2 w
def KR (P:Program) (md:Region.Mode) (ops:Array Oper) (Q:Exit->Act->bx->Prop) (cs:List (Nat×(bx->Prop))):Nat->Array Bool->Act->bx->Prop
 | 0,l,a,w=>Region.ready md ops l=[]/\Q .normal a w
 | n+1,l,a,w=>(Region.ready md ops l=[]->Q .normal a w)/\∀i∈Region.ready md ops l,wpOp P ops Q i (λa' w'=>Held cs (l.setIfInBounds i true) w'/\KR P md ops Q cs n (l.setIfInBounds i true) a' w') a w
def Gc{cs:List (Nat×(bx->Prop))} : ∀(n:Nat) (l:Array Bool) (a:Act) (w:bx),KR P md ops Q cs n l a w->wpAny P md ops Q n l a w
 | 0,_,_,_,h=>h
 | n+1,_,_,_,h=>⟨h.1,λi d=>wpOp_mono (λb w' c=>Gc n _ b w' c.2) (h.2 i d)⟩
def Ex{cs:List (Nat×(bx->Prop))}{i:Nat}{u:Oper}{v:cg}{R:bx->Prop}(hi:ops[i]?=some u)(t:∀(j:Nat) (o:Oper) cs b,ops[j]?=some o->o.op ≠ .select cs b)(hQ:∀c a w,Q (.panic c) (a.put u.dst v) w->Q (.panic c) a w)(hn:i ∉ cs.map Prod.fst)
 (K:br) (hK:∀k,K k->∃o,ops[k]?=some o/\∃e∈o.after,Region.binds md e/\e.on=i) (hR:∀(l:Array Bool) w,(∀k,K k->l.getD k true=false)->Held cs l w->R w) :
 ∀(n:Nat) (l:Array Bool) (a:Act) (w:bx),(∀j g,ops[j]?=some g->j≠i->l.getD j true=false->(∀e∈g.after,Region.binds md e->e.on≠i)->u.apart ops g) ->
  i∈Region.ready md ops l->(∀k,K k->l.getD k true=false)->YieldsIf P ops R u v a->Held cs l w->KR P md ops Q cs n (l.setIfInBounds i true) (a.put u.dst v) w->KR P md ops Q cs (n+1) l a w:=λn=>by
 have E:∀c∈cs,c.1≠i:=λc z e=>hn (e ▸ List.mem_map_of_mem z);have self:∀(m:Nat) (l:Array Bool) (a:Act) (w:bx),(∀k,K k->l.getD k true=false)->YieldsIf P ops R u v a->Held cs l w->KR P md ops Q cs m (l.setIfInBounds i true) (a.put u.dst v) w->wpOp P ops Q i (λI w'=>Held cs (l.setIfInBounds i true) w'/\KR P md ops Q cs m (l.setIfInBounds i true) I w') a w:=λm l a w hk C B h =>
  YieldsIf.wpOp hi C (hR l w hk B) ⟨λc z e=>B c z (by rw[xK (E c z)]at e;exact e),h⟩
 have p:∀(l:Array Bool) (j:Nat),i∈Region.ready md ops l->j∈Region.ready md ops l->j≠i->j∈Region.ready md ops (l.setIfInBounds i true)/\∃g,ops[j]?=some g/\l.getD j true=false/\∀e∈g.after,Region.binds md e->e.on≠i:=λl j d N f=>by have⟨x,g,s,H⟩:=xS.1 N;have F:=Xl (xS.1 d).1;exact⟨xS.2 ⟨by rw[xK f];exact x,g,s,λe A r=>Wh (H e A r)⟩,g,s,x,λe A r Y=>by rw[<-Y,H e A r]at F;cases F⟩
 induction n with
 | zero =>
  intro l a w y d hk C B h;refine⟨λe=>(by rw[e]at d;cases d),λj M=>?_⟩
  by_cases f:j=i
  .subst f;exact self 0 l a w hk C B h
  .have x:=(p l j d M f).1;rw[h.1]at x;cases x
 | succ n ih =>
  intro l a w y d hk C B h;refine⟨λe=>(by rw[e]at d;cases d),λj M=>?_⟩
  by_cases f:j=i
  .subst f;exact self (n+1) l a w hk C B h
  .have⟨x,g,s,H,V⟩:=p l j d M f;have h5:=wpOp_putIf s (y j g s f H V) (λcs b=>t i u cs b hi) (λcs b=>t j g cs b s) hQ C (h.2 j x);refine wpOp_mono (λI w' Z=>?_) h5;have⟨U,L,hW⟩:=Z;have D:Held cs (l.setIfInBounds j true) w':=λc z e=>L c z (by
    by_cases J:c.1=j
    .rw[J]at e|-;have:=Ls e
     by_cases r:j<l.size
     .simp[ye,qf6 r]at e
     .rw[ye,jh0 od]at this;cases this
    .rw[xK J,xK (E c z)];rw[xK J]at e;exact e)
   have O:∀k,K k->(l.setIfInBounds j true).getD k true=false:=λk G=>by have⟨o,ho,e,A,r,W⟩:=hK k G;rw[xK (λX=>by subst X;rw[ho]at s;cases s;exact V e A r W)];exact hk k G
   refine⟨D,ih (l.setIfInBounds j true) I w' (λq oq hq S T=>y q oq hq S (Ls T)) ?_ O U D ?_⟩
   .have⟨m1,o,m2,m3⟩:=xS.1 d;exact xS.2 ⟨by rw[xK (Ne.symm f)];exact m1,o,m2,λe A r=>Wh (m3 e A r)⟩
   .rw[Array.setIfInBounds_comm true true f];exact hW
def dN{cs:List (Nat×(bx->Prop))}{i:Nat}{b:Oper}{v:cg}{n:Nat}{l:Array Bool}{a:Act}{w:bx}(d:Option Tmp)(f:Held cs l w)(h:KR P md ops Q cs n (l.setIfInBounds i true) (a.put d v) w)(hi:ops[i]?=some b:=by rfl)(g:b.dst=d:=by rfl)(o:Region.noSelect ops:=by kernel_rfl)(j:Region.free md ops l i:=by kernel_rfl)(m:(Region.ready md ops l).contains i:=by kernel_rfl)(e:∀c a w,Q (.panic c) (a.put b.dst v) w->Q (.panic c) a w:=by exact λ_ _ _ h=>h)(hn:(cs.map Prod.fst).contains i=false:=by rfl)
 (hy:YieldsIf P ops (λ_=>True) b v a:=by exact Or.inl ⟨by rfl,λw _=>by go_simp;with_reducible rfl⟩):KR P md ops Q cs (n+1) l a w :=
 Ex hi (Region.noSelect_spec o) e (λk=>by rw[List.contains_iff_mem.2 k]at hn;cases hn) (λ_=>False) (λ_ h=>h.elim) (λ_ _ _ _=>trivial) n l a w (Region.free_spec hi j) (by simpa using m) (λ_ h=>h.elim) hy f (by rw[g];exact h)
def fP{l:Array Bool}{w:bx} : Held [] l w:=λ_ h=>by cases h
def bL{k:Nat}{R:bx->Prop}{cs:List (Nat×(bx->Prop))}{l:Array Bool}{w:bx}(h:l.getD k true\/R w)(t:Held cs l w):Held ((k,R)::cs) l w:=λc a e=>by
 rcases zr.1 a with rfl|a
 .rcases h with h|h
  .rw[h]at e;cases e
  .exact h
 .exact t c a e
def ry{cs:List (Nat×(bx->Prop))}{i k:Nat}{b:Oper}{v:cg}{n:Nat}{l:Array Bool}{a:Act}{w:bx}{R:bx->Prop}(d:Option Tmp)(r:Held cs l w)(hc:(k,R)∈cs)(B:YieldsIf P ops R b v a)(h:KR P md ops Q cs n (l.setIfInBounds i true) (a.put d v) w)(hi:ops[i]?=some b:=by rfl)(s:b.dst=d:=by rfl)(A:Region.noSelect ops:=by kernel_rfl)(u:Region.free md ops l i:=by kernel_rfl)(z:(Region.ready md ops l).contains i:=by kernel_rfl)(p:∀c a w,Q (.panic c) (a.put b.dst v) w->Q (.panic c) a w:=by exact λ_ _ _ h=>h)(hn:(cs.map Prod.fst).contains i=false:=by rfl)
 (hk:l.getD k true=false:=by kernel_rfl) (hw:((ops[k]?).map λo=>o.after.any λe=>Region.binds md e&&e.on==i)=some true:=by kernel_rfl):KR P md ops Q cs (n+1) l a w :=
 Ex hi (Region.noSelect_spec A) p (λx=>by rw[List.contains_iff_mem.2 x]at hn;cases hn) (λq=>q=k) (λq g=>by subst g;have⟨o,y,f⟩:=kd.1 hw;have⟨e,t,j⟩:=Array.any_eq_true'.1 f;simp only[qu,beq_iff_eq]at j;exact⟨o,y,e,t,j⟩) (λC w' m f=>f _ hc (m k rfl)) n l a w (Region.free_spec hi u) (by simpa using z) (λq g=>by rw[g];exact hk) B r (by rw[s];exact h)
def uP{cs:List (Nat×(bx->Prop))}{l:Array Bool}{a:Act}{w:bx}(b:Region.ready md ops l=[])(h:Q .normal a w):∀n,KR P md ops Q cs n l a w
 | 0=>⟨b,h⟩
 | n+1=>⟨λ_=>h,by rw[b];simp⟩
def wR{cs:List (Nat×(bx->Prop))}{c:Nat}{a:Act}{w:bx}(n:Nat)(hn:ops.size=n)(b:P.follows .mixedOrders)(h:KR P .any ops Q cs n (Array.replicate n false) a w.drew):(Code.region c ops true).wp P Q a w:=wp_region_any b (by rw[hn];exact Gc _ _ _ _ h)
def iE (P:Program) (md:Region.Mode) (ops:Array Oper) (Q:Exit->Act->bx->Prop) (cs:List (Nat×(bx->Prop))) (n:Nat) (l:Array Bool) (a:Act) (w:bx) (rs:List Nat):Prop:=∀i∈rs,wpOp P ops Q i (λa' w'=>Held cs (l.setIfInBounds i true) w'/\KR P md ops Q cs n (l.setIfInBounds i true) a' w') a w
def gU{cs:List (Nat×(bx->Prop))}{rs:List Nat}{n:Nat}{l:Array Bool}{a:Act}{w:bx}(c:Region.ready md ops l=rs)(b:rs.isEmpty=false)(h:iE P md ops Q cs n l a w rs):KR P md ops Q cs (n+1) l a w :=
 ⟨λe=>(by rw[c]at e;rw[e]at b;cases b),by rw[c];exact h⟩
def iE.nil{cs:List (Nat×(bx->Prop))}{n:Nat}{l:Array Bool}{a:Act}{w:bx} : iE P md ops Q cs n l a w []:=λ_ h=>by cases h
def iE.cons{cs:List (Nat×(bx->Prop))}{n:Nat}{l:Array Bool}{a:Act}{w:bx}{i:Nat}{o:Oper}{rs:List Nat}(f:ops[i]?=some o)
 (h:∀K:Act->bx->Prop,Shut (∀a w,Held cs (l.setIfInBounds i true) w->KR P md ops Q cs n (l.setIfInBounds i true) a w->K a w)->if Region.wanted o (yielded ops a.tmps)then Oper.wp P o a w K Q else K (a.put o.dst undef) w)
 (hs:iE P md ops Q cs n l a w rs):iE P md ops Q cs n l a w (i::rs):=λj b=>by
 rcases zr.1 b with rfl|b
 .exact wpOp_step f (λK c=>h K (λa w d e=>c a w ⟨d,e⟩))
 .exact hs j b
end
def Tu (W:bx) (l:an) (e:Ending) (w':bx):Prop:=∃a c V,e =.returned (.slice a l.length c)/\l.length<=c/\aT (W.heap.size <= ·) w' l a V/\cm W w' none
def Sz (l:an):Prop:=∀x∈l,x.size<=10000000
def WM (W:bx) (l:an) (a0:bj) (k:Nat) (tv:cg) (wr:bx):Prop:=∃M P tb cap vs ts,tv =.o tb ts.length cap/\nK W wr M P tb cap vs ts/\Fin l a0 M/\tsz ts<=k/\k<=vsizes l+1/\(∀p∈ts,Sz p.2)/\Dn M P λq=>∃ys,(q,ys)∈ts/\ys≠[]
def Tt (W:bx) (l:an) (a0:bj) (k g:Nat) (xs:an) (a:bj) (tv iv:cg) (wr:bx):Prop:=∃(j:Nat) (M:Nat->Option an) (P:Nat->Nat) (tb cap:Nat) (vs:bk) (ts:List (Nat×an)),j<=xs.length/\iv =.i j/\tv =.o tb ts.length cap/\nK W wr M P tb cap vs ts/\Fin l a0 M/\YN M P g xs j a/\g ∉ ts.map Prod.fst/\tsz ts+vsizes (xs.drop j)+1<=k/\(∀p∈ts,Sz p.2)/\Dn M P λq=>(∃ys,(q,ys)∈ts/\ys≠[])\/q=g/\xs≠[]
def zi{w:bx}{B e g n c j k:Nat}{L:bk}(h:w.ownsRow B e 7 (.o g n c) n L)(a:j<n)(hk:k<7):∃v,w.cell? ⟨g,j*7+k,none⟩=some v:=by have b:=h.1;have:=qb0 h (g:=g) rfl (j*7+k) _ (qn od);rw[gI,qa2]at this;exact⟨_,this⟩
def IK{x y:Va}(h:y∈x.args):y.size<=x.size:=by have:=fO h;have:=eP x;omega
def Yo{c:Array Oper}{b:List Oper}{o:Oper}{a:Act}{Q:Exit->Act->bx->Prop}(B:Nat)(us:bk)(sa:bj)(sl sc:Nat)(w0:bx)(v:cg)(d:o.guard=none)(s x:Operand)
 (ho:o.op =.call { callee:=.builtin .append,args:=#[s,x],argTypes:=#[86,86] }) (hs:a.eval s=v) {H:Nat} (hx:a.eval x =.o H 1 1) (hH:w0.heap.size=H)
 (hown:kD B w0 v us) (hB:B<=w0.heap.size) (hlen:us.length<=8000000000)
 (h:∀v' w',kD B w' v' (us++[.slice sa sl sc])->Gr w0 v w' v'->wpList prog c Q b (a.put o.dst v') w') :
 wpList prog c Q (o::b) a (w0.alloc (.cells #[.slice sa sl sc] 28)):=by
 subst hH;refine ed d s x 86 ho B 28 underlying86 Qw rfl ov v us.length us hs (ue hown _) _ 1 [.slice sa sl sc] hx rfl (gZ.new _ _ _ _ _) ?_ ?_ ?_ ?_ ?_
 .intro u e;simp at e;subst e;rfl
 .unfold maxLen;omega
 .omega
 .simp;omega
 .intro v' w' f g _;exact h v' w' (by unfold kD;rw[qT];exact f) (Gr.trans (Gr.alloc (Gr.refl w0 v) _) g)
def zT{ok:br}{W:bx}{l:an}{a:bj}{c:Nat}{V:bt}(h:aT ok W l a V)(hn:vsizes l<=4000000000)(hs:Sz l)(B:l.length<=20000000):Calls prog 31 #[.slice a l.length c] W (Tu W l):=by
 classical
 have HR:=jh (jZ.none ok W);have dp:l.length<=vsizes l:=kS l;have HC:=jh (wB (O:=λb=>(if ok b\/W.heap.size<=b then Option.none else some ([]:an))≠none) (Src.row (c:=c) (h.ae λb _ E=>by simp[E])) B);have cR:Hid (l.length<=maxLen):=h.1;have HN:=jh hn;have cW:=jh hs;clear h dp hn hs B;go_enter func31,ntmps31;go_wp2_with ((go_at_call 51;(with_reducible refine HC.out.mono ?_);rintro e w1 ⟨v,us,rfl,r,hg⟩;obtain⟨X,c0,rfl,ct⟩:=r.slice;have HK:=jh r;have HG:=jh hg;have cI:=jh ct;clear hg r ct));have bq:Hid (WM W l X (vsizes l+1) (.o (w1.heap.size) 1 1) (w1.alloc (.cells #[.slice X l.length c0] 28))):=by have⟨M,P,g,h1,B,h3⟩:=KH (λb q e F=>by split at e;cases e;cases e;exact absurd rfl F) HR.out HK.out HG.out cR.out;exact⟨M,P,_,1,_,_,rfl,h1,B,by simp[tsz],qS _,λp U=>by simp at U;subst U;exact cW.out,λb q e F=>(h3 b q e F).imp (λ⟨e,hl⟩=>⟨l,by simp[e],hl⟩) id⟩
 generalize w1.alloc (.cells #[.slice X l.length c0] 28)=w2 at *;clear HK HC HR;go_loopg [3] (vsizes l+1) (λk tv wr=>WM W l X k tv wr)
 case atStart=>exact bq
 case round =>
  obtain⟨M,P,tb,cap,vs,ts,rfl,S,hF,hz,hk,A,z⟩:=hrel;rcases jh7 ts with rfl|⟨ts,⟨g,q⟩,rfl⟩
  .have⟨V',hV⟩:=Oe S.ren (λb q e F=>(z b q e F).imp (λ⟨_,h,_⟩=>by simp at h) id) hF;have HE:Hid (Tu W l (.returned (.slice X l.length c0)) wr):=⟨_,c0,V',rfl,cI,hV,S.ren.gr⟩;clear S hF hz hk hV A z;go_wp2;go_ret;exact HE
  .rw [ka0]at *;have⟨dy,a2,c2,T,aO,hE,H⟩:=S.pop;rw[Cw]at hz;have bc:ts.length<=8000000000:=by have h1:=len_tsz ts;have B:=HN.out;omega
   have ca:Hid (Tt W l X gk g q a2 (.o tb ts.length cap) (.i 0) wr):=⟨0,M,P,tb,cap,dy,ts,zE _,rfl,rfl,T,hF,hE,H,by simpa using (by omega:tsz ts+vsizes q+1<=gk),λp U=>A p (by simp[U]),λb ys e F=>(z b ys e F).imp (λ⟨zs,h,I⟩=>by
    rcases xb.1 h with h|h
    .exact .inl ⟨zs,h,I⟩
    .simp at h;exact .inr ⟨h.1,h.2 ▸ I⟩) id⟩
   have dc:Hid (Sz q):=A (g,q) ot;have HK:=jh hk;have dT:ts.length<=cap:=by
    rcases T.own.2 with⟨e,_⟩|⟨_,_,_,e,_,_,m,_⟩
    .cases e
    .simp only[kl]at e;omega
   clear S T hF hE H hz hk bq A z;simp only[qT,jt,xT,qa2];go_wp2_with fail;go_loopw [3,27] (λtv iv wr=>Tt W l X gk g q a2 tv iv wr) (λ_ iv _=>q.length - (intOf iv).toNat)
   case atStart=>exact ca
   case round =>
    obtain⟨j,M,P,tb,cap,vs,ts,hj,rfl,rfl,S,hF,hE,H,hz,A,z⟩:=hrel
    by_cases f:j<q.length
    .have d1:(j:Int)<(q.length:Int):=by omega
     rcases hE with rfl|⟨rfl,hM,hP⟩
     .simp at f
     have C:=qn f;generalize q[j]=x at C;have⟨ek,du,us,cp,L,bf,he⟩:=S.ren.rows g q hM (by rintro rfl;simp at f);have bb:j<us.length:=by rw[bf];exact f
     have hL:=(he j x us[j] C (qn bb)).2 od;have⟨aa,ac,ta,tc,na,nc,VA,VT,VN,eu,_,hA,cr,ck⟩:=hL.inv;have cD:us[j]?=some (bg x.k x.n x.a x.s aa x.args.length ac ta x.types.length tc na x.code.length nc):=by rw[qn bb,eu]
     have h7:∀u∈us,(nodeCells u).length=7:=λu hu=>by obtain⟨k,hk,rfl⟩:=ub hu;have⟨_,_,_,_,_,_,_,_,e,_⟩:=(he k q[k] us[k] (qn od) (qn hk)).1;rw[e];rfl
     have ah:∀(k:Nat) (v:cg),(nodeCells (bg x.k x.n x.a x.s aa x.args.length ac ta x.types.length tc na x.code.length nc))[k]?=some v->k<7->wr.cell? ⟨g,j*7+k,none⟩=some v:=λk v hv hk=>by have:=qb0 L (g:=g) rfl (j*7+k) v (by rw[flatV_get us h7 j k _ cD hk];exact hv);rw[gI,qa2]at this;exact this
     have c4:=ah 4 _ rfl od;have c5:=ah 5 _ rfl od;have c6:=ah 6 _ rfl od;have cx:vsizes (q.drop j)=x.size+vsizes (q.drop (j+1)):=by rw[yW f];rw[qn f]at C;simp only[qk]at C;simp only[vsizes,C]
     have cF:=eP x;have dn:=HK.out;have dr:=HN.out;have J:∀t,cm wr t (some g)->Same (λb=>M b=none) wr t:=λt B b o E f=>qt (B.block b f (λe=>by cases e;rw[hM]at E;cases E));have dj:=kS x.args;have cE:=dc.out x (zj C);have⟨da,cb,cN⟩:=we cE A z;have cJ:Hid (∀t,cm wr t none->Calls prog 51 #[.slice aa x.args.length ac] t (IV (λb=>M b≠none) t x.args)):=λt B=>wB (Src.row ((hA.same (λb o E f=>qt (B.block b f ot))).ae λb _ E=>by simpa using E)) od;have cL:Hid (∀t,cm wr t (some g)->Calls prog 54 #[.slice ta x.types.length tc] t (Sw t x.types)):=λt B=>copiedT_any 20000000 od (qS _) ((cr.same (J t B)).ae λ_ _ _=>trivial);have cM:Hid (∀t,cm wr t (some g)->Calls prog 55 #[.slice na x.code.length nc] t (Sv t x.code)):=λt B=>copiedN_any 20000000 od (qS _) ((ck.same (J t B)).ae λ_ _ _=>trivial);have⟨HT,HF,HM,HP,db,aj,HO⟩:=wi S hF hM hP C H L;have aq:Hid (tsz ts+(x.size+vsizes (q.drop (j+1)))+1<=gk):=by rw[cx]at hz;exact hz
     have cG:Hid (x.args.length<=maxLen):=hA.1;have cX:=jh bf;clear S hF hM hP C H L hz hL ah cD h7 eu hA cr ck he cF cx dn dr J dj bf bb ca aO cE A z;unfold maxLen at du
     go_upto_region 11 with (fail)
     go_cut [] (λwx=>Put W M P tb cap vs ts g j x wx)
     case first =>
      have d:Hid (∀c∈[((7:Nat),λw:bx=>w.cell? ⟨g,j*7+4,none⟩=some (.slice aa x.args.length ac)),(12,λw=>w.cell? ⟨g,j*7+5,none⟩=some (.slice ta x.types.length tc)),(17,λw=>w.cell? ⟨g,j*7+6,none⟩=some (.slice na x.code.length nc))],c.2 wr.drew):=by
       intro c m;simp only[zr,qe4,or_false]at m;rcases m with rfl|rfl|rfl
       .exact c4
       .exact c5
       .exact c6
      refine wR (cs:=[((7:Nat),λw:bx=>w.cell? ⟨g,j*7+4,none⟩=some (.slice aa x.args.length ac)),(12,λw=>w.cell? ⟨g,j*7+5,none⟩=some (.slice ta x.types.length tc)),(17,λw=>w.cell? ⟨g,j*7+6,none⟩=some (.slice na x.code.length nc))]) 27 oA oA ?_;refine dN (i:=0) (some 33) (λc m _=>d.out c m) ?_;simp only[Act.put,zc,xF,xj];refine dN (i:=1) (some 34) (λc m _=>d.out c m) ?_;simp only[Act.put,zc,xF,xj];refine dN (i:=2) (some 35) (λc m _=>d.out c m) ?_;simp only[Act.put,zc,xF,xj];refine dN (i:=3) (some 36) (λc m _=>d.out c m) ?_;simp only[Act.put,zc,xF,xj];refine dN (i:=4) (some 37) (λc m _=>d.out c m) ?_;simp only[Act.put,zc,xF,xj];refine dN (i:=5) (some 38) (λc m _=>d.out c m) ?_;simp only[Act.put,zc,xF,xj];refine ry (i:=6) (k:=7) (some 39) (λc m _=>d.out c m) (.head _) (Or.inl ⟨by rfl,λw hw=>by dsimp only at hw;go_simp;with_reducible rfl⟩) ?_ (hi:=rfl);simp only[Act.put,zc,xF,xj];refine dN (i:=8) (some 41) (λc m _=>d.out c m) ?_;simp only[Act.put,zc,xF,xj];refine dN (i:=9) (some 42) (λc m _=>d.out c m) ?_;simp only[Act.put,zc,xF,xj];refine dN (i:=10) (some 43) (λc m _=>d.out c m) ?_;simp only[Act.put,zc,xF,xj];refine ry (i:=11) (k:=12) (some 44) (λc m _=>d.out c m) (.tail _ (.head _)) (Or.inl ⟨by rfl,λw hw=>by dsimp only at hw;go_simp;with_reducible rfl⟩) ?_ (hi:=rfl);simp only[Act.put,zc,xF,xj];refine dN (i:=13) (some 46) (λc m _=>d.out c m) ?_;simp only[Act.put,zc,xF,xj];refine dN (i:=14) (some 47) (λc m _=>d.out c m) ?_;simp only[Act.put,zc,xF,xj];refine dN (i:=15) (some 48) (λc m _=>d.out c m) ?_;simp only[Act.put,zc,xF,xj];refine ry (i:=16) (k:=17) (some 49) (λc m _=>d.out c m) (.tail _ (.tail _ (.head _))) (Or.inl ⟨by rfl,λw hw=>by dsimp only at hw;go_simp;with_reducible rfl⟩) ?_ (hi:=rfl);simp only[Act.put,zc,xF,xj];refine gU (rs:=[7]) oA rfl (iE.cons rfl (λK r=>?_) iE.nil);go_simp;refine (cJ.out wr.drew (fK (bM _ _))).mono ?_;rintro e w3 ⟨v,er,rfl,aC,ai⟩;obtain⟨a3,c3,rfl,cu⟩:=aC.slice;have dd:=JJ ai (show wr.drew.cell? ⟨g,j*7+5,none⟩=_ from c5);have cc:=JJ ai (show wr.drew.cell? ⟨g,j*7+6,none⟩=_ from c6);have⟨cP,N,bl⟩:=we aC ai cu;clear aC ai cu;refine r.out _ _ (bL (.inl rfl) (bL (.inr dd) (bL (.inr cc) fP))) ?_;clear r K;refine gU (rs:=[12]) oA rfl (iE.cons rfl (λK r=>?_) iE.nil);go_simp;refine (cL.out w3 (kL (aJ (fK (bM _ _)) N.out))).mono ?_;rintro e w4 ⟨a4,R,V4,rfl,cv,cn,ba⟩;have de:=JJ ba cc;have⟨cU,Q,bm⟩:=we cn ba cv;clear cn ba cv;refine r.out _ _ (bL (.inl rfl) (bL (.inl rfl) (bL (.inr de) fP))) ?_;clear r K;refine gU (rs:=[17]) oA rfl (iE.cons rfl (λK r=>?_) iE.nil);go_simp;refine (cM.out w4 (kL (aJ (aJ (fK (bM _ _)) N.out) Q.out))).mono ?_;rintro e w5 ⟨a5,Z,V5,rfl,cw,cq,cy⟩;have⟨cV,Y,bp⟩:=we cq cy cw;clear cq cy cw;refine r.out _ _ (bL (.inl rfl) (bL (.inl rfl) (bL (.inl rfl) fP))) ?_;clear r K;have ar:Hid (w5.ownsRow W.heap.size 36 7 (.o g q.length cp) q.length (flat us)):=by have h:=yq HO.out (aJ (aJ (aJ (fK (bM _ _)) N.out) Q.out) Y.out) (.inr oT);rw[cX.out]at h;exact h
      have au:=jh (ar.stored (j*7+4) (.slice a3 x.args.length c3)).1;have ax:=jh (au.stored (j*7+5) (.slice a4 x.types.length R)).1;have ea:=jh (ax.stored (j*7+6) (.slice a5 x.code.length Z)).1;refine dN (i:=18) (some 51) (bL (.inl rfl) (bL (.inl rfl) (bL (.inl rfl) fP))) ?_;simp only[Act.put,zc,xF,xj];refine dN (i:=19) (some 52) (bL (.inl rfl) (bL (.inl rfl) (bL (.inl rfl) fP))) ?_;simp only[Act.put,zc,xF,xj];have eh:=ar.out.frozenAt (j*7+4);have⟨o4,ee⟩:=zi (k:=4) ar f ov;refine gU (rs:=[20]) oA rfl (iE.cons rfl (λK r=>?_) iE.nil);go_simp;refine r _ _ (bL (.inl rfl) (bL (.inl rfl) (bL (.inl rfl) fP))) ?_;clear r K;refine dN (i:=21) (some 53) (bL (.inl rfl) (bL (.inl rfl) (bL (.inl rfl) fP))) ?_;simp only[Act.put,zc,xF,xj];refine dN (i:=22) (some 54) (bL (.inl rfl) (bL (.inl rfl) (bL (.inl rfl) fP))) ?_;simp only[Act.put,zc,xF,xj];have ei:=au.out.frozenAt (j*7+5);have⟨o5,ef⟩:=zi (k:=5) au f ov;refine gU (rs:=[23]) oA rfl (iE.cons rfl (λK r=>?_) iE.nil);go_simp;refine r _ _ (bL (.inl rfl) (bL (.inl rfl) (bL (.inl rfl) fP))) ?_;clear r K;refine dN (i:=24) (some 55) (bL (.inl rfl) (bL (.inl rfl) (bL (.inl rfl) fP))) ?_;simp only[Act.put,zc,xF,xj];refine dN (i:=25) (some 56) (bL (.inl rfl) (bL (.inl rfl) (bL (.inl rfl) fP))) ?_;simp only[Act.put,zc,xF,xj];have ej:=ax.out.frozenAt (j*7+6);have⟨o6,eg⟩:=zi (k:=6) ax f ov;refine gU (rs:=[26]) oA rfl (iE.cons rfl (λK r=>?_) iE.nil);go_simp;refine r _ _ (bL (.inl rfl) (bL (.inl rfl) (bL (.inl rfl) fP))) ?_;clear r K;refine uP oA ?_ _;have cT:Hid (Put W M P tb cap vs ts g j x (((w5.setCell ⟨g,j*7+4,none⟩ (.slice a3 x.args.length c3)).setCell ⟨g,j*7+5,none⟩ (.slice a4 x.types.length R)).setCell ⟨g,j*7+6,none⟩ (.slice a5 x.code.length Z))):=by have hd:=fK (bM wr none);have en:=ki (HT.ren.lt g q HM) (aJ hd N).size;have s4:=Q.out.size;have cA:cm w5 (((w5.setCell ⟨g,j*7+4,none⟩ (.slice a3 x.args.length c3)).setCell ⟨g,j*7+5,none⟩ (.slice a4 x.types.length R)).setCell ⟨g,j*7+6,none⟩ (.slice a5 x.code.length Z)) (some g):=dY (dY (dY (bM _ _) _ _ _) _ _ _) _ _ _;have J:∀b,w3.heap.size<=b->b<w5.heap.size->∀o,(((w5.setCell ⟨g,j*7+4,none⟩ (.slice a3 x.args.length c3)).setCell ⟨g,j*7+5,none⟩ (.slice a4 x.types.length R)).setCell ⟨g,j*7+6,none⟩ (.slice a5 x.code.length Z)).cell? ⟨b,o,none⟩=w5.cell? ⟨b,o,none⟩:=λb E f o=>qt (cA.block b f (λe=>by cases e;omega));refine UK (HT.grow hd) HM HP db aj cG cP N ⟨bl,bm,bp⟩ ((cU.same (λb o _ f=>ni Y b o trivial f)).same (λb o E f=>J b E f o)) ((cV.ae (λb _ E=>km s4 E)).same (λb o E f=>J b E f o)) ⟨fF (kL (aJ Q Y)) cA,λep dz L hl=>?_⟩;have h:=yq L (aJ Q Y) (.inr oT);rw[hl]at h;exact (((h.stored _ _).1.stored _ _).1.stored _ _).1
      go_wp2_with fail;go_meet;exact cT
     case rest =>
      have⟨M',P',eb,ay,D,G,ad,R,cf,az⟩:=hcut;have ab:=az _ cN
      by_cases h0:x.args=[]
      .have eo:x.args.length=0:=by rw[h0];rfl
       have d2:¬(0:Int)<(x.args.length:Int):=od
       have HE:Hid (Tt W l X gk g q (some ⟨g,0,none⟩) (.o tb ts.length cap) (.i ((j+1:Nat):Int)) wc):=⟨j+1,M',P',tb,cap,vs,ts,f,rfl,rfl,D,HF.mono G,.inr ⟨rfl,G _ _ HM,ad⟩,aj,by have h:=aq.out;omega,cb,λb ys e F=>(ab b ys e F).imp (λh=>h.resolve_right λh=>h.1 h0) id⟩;clear az ab D G ad cf;go_wp2;go_roundw
       case rel=>exact HE
       case measure=>simp[intOf];omega
      .rcases cf with h|⟨g',rfl,cj,cl,cC,cz⟩
       .exact absurd h h0
       have dq:=jd3.2 h0;have d2:(0:Int)<(x.args.length:Int):=od
       have bh:vs.length=ts.length:=by have:=D.own.1;simpa using this
       have bc:vs.length<=8000000000:=by have h1:=len_tsz ts;have B:=aq.out;have h3:=HK.out;have h4:=HN.out;omega
       have cS:Hid (kD W.heap.size wc (.o tb ts.length cap) vs):=by have h:=D.own;unfold kD;rw[bh];exact h
       have cH:Hid (W.heap.size<=wc.heap.size):=D.ren.gr.size;have cY:=jh bh;have cQ:=jh bc;have HE:Hid (∀v' w',kD W.heap.size w' v' (vs++[.o g' x.args.length ay])->Gr wc (.o tb ts.length cap) w' v'->Tt W l X gk g q (some ⟨g,0,none⟩) v' (.i ((j+1:Nat):Int)) w'):=λv' w' L hg=>by
        have ds:w'.ownsRow W.heap.size 28 1 v' (ts.length+1) (vs++[.o g' x.args.length ay]):=by unfold kD at L;rw[qT,cY.out]at L;exact L
        obtain⟨M2,dv,cd,rfl,T,ch,dg⟩:=D.push cj cl cC ds hg;have h:=aq.out;have cF:=eP x;exact⟨j+1,M2,P',dv,cd,_,_,f,rfl,ot,T,(HF.mono G).mono ch,.inr ⟨rfl,ch _ _ (G _ _ HM),ad⟩,by simp only[qb5,qc3,jb3,xb,js,not_or];exact⟨aj,λe=>cz e.symm⟩,by rw[Cw];omega,λp U=>by
         rcases xb.1 U with U|U
         .exact cb p U
         .simp at U;subst U;exact λy hy=>by have h1:=IK hy;have B:=da.out;simp only at *;omega,λb ys e F=>(ab b ys (dg b ys e F) F).imp (λh=>by
         rcases h with (⟨zs,h,I⟩|h)|⟨h,e2⟩
         .exact .inl ⟨zs,by simp[h],I⟩
         .exact .inr h
         .simp at e2;subst e2;exact .inl ⟨x.args,ot,h⟩) id⟩
       clear az ab D G ad cj cl cC cz dq bh bc;go_wp2_with (at_builtin;refine Yo W.heap.size vs (some ⟨g',0,none⟩) x.args.length ay wc _ rfl _ _ rfl rfl rfl rfl cS cH cQ ?_;intro v' w' L hg;have HQ:=jh (HE v' w' L hg);clear L hg);go_roundw
       case rel=>exact HQ
       case measure=>simp[intOf];omega
    .have dk:j=q.length:=by omega
     subst dk;have d1:¬(q.length:Int)<(q.length:Int):=od
     have HE:Hid (WM W l X (tsz ts) (.o tb ts.length cap) wr/\tsz ts<gk):=by
      have hk:=HK.out;exact⟨⟨M,P,tb,cap,vs,ts,rfl,S,hF,qS _,od,A,λb ys e F=>by
       rcases z b ys e F with (h|⟨rfl,I⟩)|h
       .exact .inl h
       .rcases hE with h|⟨_,B,h3⟩
        .exact absurd h I
        .rw[B]at e;cases e;exact .inr od
       .exact .inr h⟩,od⟩
     clear S hF hE H hz A z;go_wp2_with fail
     go_roundg (tsz ts)
     case measure=>exact HE.2
     case rel=>exact HE.1
