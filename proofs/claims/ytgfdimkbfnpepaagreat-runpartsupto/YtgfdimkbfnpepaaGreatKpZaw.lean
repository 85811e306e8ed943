import Derived.Test.YtgfdimkbfnpepaaGreatKpZav
import Derived.Deep.LoopGhost
import Derived.Deep.RegionWith
namespace Go.Proofs.YtgfdimkbfnpepaaGreat
set_option linter.all false
open Go.Proofs.Tryz
open Go.ChangeShapes Go.WideShapes Go.ChangeAt Go.RowKit
set_option maxRecDepth 100000
set_option maxHeartbeats 1000000
def tH (N:Nat->Prop) (M:Nat->Option (List Va)) (w:World) (x:Va) (u:Value):Prop:=∃aa ac ta tc na nc VT VN,u=bg x.k x.n x.a x.s aa x.args.length ac ta x.types.length tc na x.code.length nc/\(bD x.k/\bD x.n/\bD x.a/\x.s.size<=maxLen)/\(x.args.length<=ac/\x.args.length<=maxLen/\x.types.length<=tc/\x.code.length<=nc) /\
 dw (λb=>M b=none/\N b) w x.types ta VT/\cK (λb=>M b=none/\N b) w x.code na VN/\((∃VA,aT (λb=>M b=none/\N b) w x.args aa VA)\/∃g,aa=some ⟨g,0,none⟩/\M g=some x.args/\x.args≠[])
def tH.mono{N c:Nat->Prop}{M:Nat->Option (List Va)}{w:World}{x:Va}{u:Value}(h:tH N M w x u)(a:∀b,N b->c b):tH c M w x u:=by obtain⟨g,i,r,s,p,q,f,e,o,j,k,n,m,l⟩:=h;exact⟨g,i,r,s,p,q,f,e,o,j,k,n.ae λb _ h=>⟨h.1,a b h.2⟩,m.ae λb _ h=>⟨h.1,a b h.2⟩,l.imp (λ⟨d,h⟩=>⟨d,h.ae λb _ h=>⟨h.1,a b h.2⟩⟩) id⟩
structure jZ (W w:World) (M:Nat->Option (List Va)) (P:Nat->Nat):Prop where
 rows:∀g xs,M g=some xs->xs≠[]->W.heap.size<=g/\xs.length<=maxLen/\∃us cap,dF W.heap.size w (.slice (some ⟨g,0,none⟩) xs.length cap) us/\us.length=xs.length/\∀(i:Nat) (x:Va) (u:Value),xs[i]?=some x->us[i]?=some u->tH (λb=>P g<=i\/W.heap.size<=b) M w x u/\(P g<=i->aA (λb=>M b=none) w x u)
 gr:W.grownBy w none
 lt:∀g xs,M g=some xs->g<w.heap.size
def Et{x:Va} : ∀{l:List Va},x∈l->x.size<=vsizes l
 | y::l,h=>by
  simp only[vsizes];rcases xb.1 h with rfl|h
  .omega
  .have:=Et h;omega
def Dn (M:Nat->Option (List Va)) (P:Nat->Nat) (X:Nat->Prop):Prop:=∀g xs,M g=some xs->xs≠[]->X g\/xs.length<=P g
def Kj{W w:World}{M:Nat->Option (List Va)}{P:Nat->Nat}(hR:jZ W w M P)(hD:Dn M P λ_=>False):∀(N:Nat) (x:Va) (u:Value),x.size<=N->tH (W.heap.size <= ·) M w x u->aA (W.heap.size <= ·) w x u:=λN=>by
 induction N with
 | zero=>intro x u hx;have:=eP x;omega
 | succ N ih =>
  intro x u hx ⟨aa,ac,ta,tc,na,nc,VT,VN,hu,h1,h2,hT,hN,hA⟩;have key:∃VA,aT (W.heap.size <= ·) w x.args aa VA:=by
   rcases hA with⟨VA,h⟩|⟨g,rfl,hg,hB⟩
   .exact⟨VA,h.ae λb _ h=>h.2⟩
   .obtain⟨hW,hm,us,cap,ho,hl,he⟩:=hR.rows g x.args hg hB;obtain⟨a,c,V,e,_,h⟩:=uG (ok:=(W.heap.size <= ·)) ho hl (λi y v hy hv=>ih y v (by
     have h3:=Et (qa1 hy);obtain⟨k,n,a,s,args,types,code⟩:=x;simp only[Va.size,Va.args]at hx h3;omega) ((he i y v hy hv).1.mono λb hb=>by
     rcases hb with hb|hb
     .have:=(hD g _ hg hB).resolve_left id;have:=(jj.1 hy).1;omega
     .exact hb)) (λb e=>by simp only[Value.ownBlock,qk]at e;subst e;exact hW) hm
    simp only[ke]at e;obtain⟨rfl,_⟩:=e;exact⟨V,h⟩
  obtain⟨VA,hV⟩:=key;rw[hu];obtain⟨k,n,a,s,args,types,code⟩:=x;exact aA.mk (hnk:=⟨h2.2.2.2,h2.2.2.1⟩) VA VT VN hV.1 h2.1 h1.2.2.2 h1.1 h1.2.1 h1.2.2.1 (hT.ae λb _ h=>h.2) (hN.ae λb _ h=>h.2) hV.2.1 hV.2.2
def tH.of{N:Nat->Prop}{M:Nat->Option (List Va)}{w:World}{x:Va}{u:Value}(h:aA (λb=>M b=none) w x u)(c:∀b,N b):tH N M w x u:=by
 cases h with
 | mk V g f e d l o m n i hN j k =>
  rename_i a;exact⟨_,_,_,_,_,_,g,f,rfl,⟨o,m,n,l⟩,⟨d,e,a.2,a.1⟩,i.ae λb _ h=>⟨h,c b⟩,hN.ae λb _ h=>⟨h,c b⟩,.inl ⟨V,(show aT (λb=>M b=none) w _ _ V from ⟨e,j,k⟩).ae λb _ h=>⟨h,c b⟩⟩⟩
def tH.move{N:Nat->Prop}{M c:Nat->Option (List Va)}{w w':World}{x:Va}{u:Value}(h:tH N M w x u)(v:∀b,b<w.heap.size->M b=none->c b=none)(d:∀g xs,M g=some xs->c g=some xs)(A:∀b o,M b=none->b<w.heap.size->w'.cell? ⟨b,o,none⟩=w.cell? ⟨b,o,none⟩):tH N c w' x u:=by
 obtain⟨n,p,E,F,C,D,m,l,B,q,r,y,hN,s⟩:=h;have a:Same (λb=>M b=none/\c b=none/\N b) w w':=λb o f i=>A b o f.1 i;have j:∀b,b<w.heap.size->M b=none/\N b->M b=none/\c b=none/\N b:=λb f h=>⟨h.1,v b f h.1,h.2⟩;refine⟨n,p,E,F,C,D,m,l,B,q,r,((y.ae j).same a).ae (λ_ _ h=>h.2),((hN.ae j).same a).ae (λ_ _ h=>h.2),?_⟩;rcases s with⟨k,h⟩|⟨g,e,z,t⟩
 .exact .inl ⟨k,((h.ae j).same a).ae (λ_ _ h=>h.2)⟩
 .exact .inr ⟨g,e,d _ _ z,t⟩
def nU{M a:Nat->Option (List Va)}{w w':World}{x:Va}{u:Value}(h:aA (λb=>M b=none) w x u)(e:∀b,b<w.heap.size->M b=none->a b=none)(f:∀b o,M b=none->b<w.heap.size->w'.cell? ⟨b,o,none⟩=w.cell? ⟨b,o,none⟩):aA (λb=>a b=none) w' x u :=
 ((h.ae (ok':=λb=>M b=none/\a b=none) λb c h=>⟨h,e b c h⟩).same (λb o c d=>f b o c.1 d)).ae (λ_ _ h=>h.2)
def jZ.Qu{W w w':World}{M:Nat->Option (List Va)}{P:Nat->Nat}{t:Option Nat}(h:jZ W w M P)(a:w.grownBy w' t)(d:∀b,t=some b->M b=some []/\W.heap.size<=b):jZ W w' M P :=
 ⟨λg f e j=>by
  obtain⟨r,s,A,cap,z,y,l⟩:=h.rows g f e j;have m:∀b o,M b=none->b<w.heap.size->w'.cell? ⟨b,o,none⟩=w.cell? ⟨b,o,none⟩:=λb o k c=>qn (a.block b c (λe=>by rw[(d b e.symm).1]at k;cases k));exact⟨r,s,A,cap,zp z a (.inr (λq=>by rw[(d g q.symm).1]at e;cases e;exact j rfl)),y,λi x u p n=>⟨(l i x u p n).1.move (λ_ _ h=>h) (λ_ _ h=>h) m,λv=>nU ((l i x u p n).2 v) (λ_ _ h=>h) m⟩⟩,by
  cases t with
  | none=>exact aJ h.gr a
  | some b=>exact aG h.gr a (d b rfl).2,λg f e=>jz (h.lt g f e) a.size⟩
def jZ.grow{W w w':World}{M:Nat->Option (List Va)}{P:Nat->Nat}(h:jZ W w M P)(a:w.grownBy w' none):jZ W w' M P:=h.Qu a (λ_ e=>by cases e)
def jZ.aside{W w:World}{M:Nat->Option (List Va)}{P:Nat->Nat}{v:World}{t:Nat}{o:Option Nat}(h:jZ W v M P)(c:v.grownBy w o)(n:∀b,o=some b->M b=some []/\W.heap.size<=b)(p:v.heap.size<=t)(f:t<w.heap.size):jZ W w (λb=>if b=t then some []else M b) P:=by
 have q:∀b,b<v.heap.size->M b=none->(if b=t then some []else M b)=none:=λb l e=>by rw[oa];exact e
 have k:∀b a,M b=some a->(if b=t then some []else M b)=some a:=λb a e=>by rw[if_neg (by have:=h.lt b a e;omega)];exact e
 have s:∀b o,M b=none->b<v.heap.size->w.cell? ⟨b,o,none⟩=v.cell? ⟨b,o,none⟩:=λb o l m=>qn (c.block b m (λe=>by rw[(n b e.symm).1]at l;cases l));refine⟨λg a e j=>?_,(h.Qu c n).gr,λg a e=>?_⟩
 .split at e
  .cases e;exact absurd rfl j
  .obtain⟨p,f,vs,A,D,C,r⟩:=h.rows g a e j;exact⟨p,f,vs,A,zp D c (.inr (λd=>by rw[(n g d.symm).1]at e;cases e;exact j rfl)),C,λi x u z y=>⟨(r i x u z y).1.move q k s,λB=>nU ((r i x u z y).2 B) q s⟩⟩
 .split at e
  .rename_i d;rw[d];exact f
  .exact jz (h.lt g a e) c.size
def jZ.add{W w w':World}{M:Nat->Option (List Va)}{P:Nat->Nat}{l:List Va}{g cap:Nat}{us:List Value}(h:jZ W w M P)(f:nI (λb=>M b≠none) w w' (.slice (some ⟨g,0,none⟩) l.length cap) l us)(p:w.grownBy w' none)(J:l.length<=maxLen) :
 jZ W w' (λb=>if b=g then some l else M b) (λb=>if b=g then 0 else P b):=by
 have B:=(kp f.own g rfl).1;have z:∀b,b<w.heap.size->M b=none->(if b=g then some l else M b)=none:=λb n e=>by rw[oa];exact e
 have A:∀b a,M b=some a->(if b=g then some l else M b)=some a:=λb a e=>by rw[if_neg (by have:=h.lt b a e;omega)];exact e
 have D:∀b o,M b=none->b<w.heap.size->w'.cell? ⟨b,o,none⟩=w.cell? ⟨b,o,none⟩:=λb o _ C=>qn (p.block b C ot);refine⟨λk a e G=>?_,aJ h.gr p,λk a e=>(by split at e;rename_i v;rw[v];exact (kp f.own g rfl).2;exact jz (h.lt k a e) p.size)⟩;split at e
 .rename_i v;cases e;subst v;have m:∀(i:Nat) (x:Va) (u:Value),l[i]?=some x->us[i]?=some u->aA (λb=>(if b=k then some l else M b)=none) w' x u:=λi x u d c=>nU ((f.lies i x u d c).ae (ok':=λb=>M b=none) λb _ n=>by simpa using n) z D;refine⟨kh h.gr.size B,J,us,cap,?_,f.len,λi x u d c=>⟨tH.of (m i x u d c) (λb=>.inl ot),λ_=>m i x u d c⟩⟩;obtain⟨y,F⟩:=f.own;refine⟨y,F.imp id ?_⟩;rintro⟨q,s,t,e,n,r⟩;exact⟨q,s,t,e,kh h.gr.size n,r⟩
 .rename_i j;obtain⟨m,y,vs,s,K,I,E⟩:=h.rows k a e G;refine⟨m,y,vs,s,zp K p (.inr oX),I,λi x u d c=>⟨by have h:=(E i x u d c).1.move z A D;simpa[j]using h,λH=>nU ((E i x u d c).2 (by simpa[j]using H)) z D⟩⟩
def Dx(k n a:Int)(s:ByteArray)(r:Option Addr)(al ac:Nat)(ta:Option Addr)(tl tc:Nat)(na:Option Addr)(t nc:Nat)(b:Option Addr)(f d:Nat)(o:Option Addr)(jJ p:Nat)(g:Option Addr)(m j:Nat):∀(us:List Value),(∀u∈us,(nodeCells u).length=7)->∀i,us[i]?=some (bg k n a s r al ac ta tl tc na t nc) ->
 flat (us.set i (bg k n a s b f d o jJ p g m j))=(((flat us).set (i*7+4) (.slice b f d)).set (i*7+5) (.slice o jJ p)).set (i*7+6) (.slice g m j)
 | [],_,i,h=>by simp at h
 | x::us,q,0,h=>by simp only[kl,qk]at h;subst h;rfl
 | x::us,q,i+1,h=>by
  have w:=q x ot;have y:=Dx k n a s r al ac ta tl tc na t nc b f d o jJ p g m j us (λu v=>q u (by simp[v])) i (by simpa using h);have e:∀(l:List Value) (k:Nat) (c:Value),(nodeCells x++l).set ((i+1)*7+k) c=nodeCells x++l.set (i*7+k) c:=λl k c=>by rw[jd3 _ _ od,w,show (i+1)*7+k - 7=i*7+k by omega]
  rw[zE,show flat (x::us.set i (bg k n a s b f d o jJ p g m j))=nodeCells x++flat (us.set i (bg k n a s b f d o jJ p g m j)) from rfl,y,show flat (x::us)=nodeCells x++flat us from rfl,e,e,e]
def Wrote (B:Nat) (w wx:World) (g i n:Nat) (x y z:Value):Prop:=w.grownBy wx (some g)/\∀us cap,dF B w (.slice (some ⟨g,0,none⟩) n cap) us->us.length=n->wx.ownsRow B 36 7 (.slice (some ⟨g,0,none⟩) n cap) n ((((flat us).set (i*7+4) x).set (i*7+5) y).set (i*7+6) z)
def jZ.put{W w z:World}{M:Nat->Option (List Va)}{P:Nat->Nat}{g i:Nat}{xs:List Va}{x:Va}{A ta na:Option Addr}{ac tc nc:Nat}{VT VN:Nat->Value}(h:jZ W w M P)(J:M g=some xs)(hP:P g=i)(v:xs[i]?=some x)(I:x.args.length<=ac/\x.types.length<=tc/\x.code.length<=nc)
 (hT:dw (λb=>M b=none/\W.heap.size<=b) z x.types ta VT) (hN:cK (λb=>M b=none/\W.heap.size<=b) z x.code na VN) (hw3:Wrote W.heap.size w z g i xs.length (.slice A x.args.length ac) (.slice ta x.types.length tc) (.slice na x.code.length nc)) (q:x.args=[]\/∃d,A=some ⟨d,0,none⟩/\M d=some x.args) :
 jZ W z M (λb=>if b=g then i+1 else P b):=by
 obtain⟨T,g2,l,cap,V,E,D⟩:=h.rows g xs J (λe=>by rw[e]at v;simp at v);have f:=hw3.1;have F:∀b o,M b=none->b<w.heap.size->z.cell? ⟨b,o,none⟩=w.cell? ⟨b,o,none⟩:=λb o C L=>qn (f.block b L (λe=>by cases e;rw[J]at C;cases C));have B:∀b,b<w.heap.size->M b=none->M b=none:=λ_ _ h=>h;have r:∀b p,M b=some p->M b=some p:=λ_ _ h=>h;have K:i<l.length:=by rw[E];exact (jj.1 v).1
 have h7:∀u∈l,(nodeCells u).length=7:=λu c=>by obtain⟨k,hk,rfl⟩:=ye c;obtain⟨_,_,_,_,_,_,_,_,e,_⟩:=(D k xs[k] l[k] (qt od) (qt hk)).1;rw[e];rfl
 obtain⟨G,H,R,S,O,Q,Z,Y,eu,k1,k2,_⟩:=(D i x l[i] v (qt K)).1;have N:l[i]?=some (bg x.k x.n x.a x.s G x.args.length H R x.types.length S O x.code.length Q):=by rw[qt K,eu]
 refine⟨λd p e hB=>?_,aG h.gr f T,λd p e=>jz (h.lt d p e) f.size⟩
 by_cases j:d=g
 .subst j;rw[J]at e;cases e;refine⟨T,g2,l.set i (bg x.k x.n x.a x.s A x.args.length ac ta x.types.length tc na x.code.length nc),cap,?_,by simp[E],λk y u m c=>?_⟩
  .unfold dF at V|-;rw[jd5,Dx _ _ _ _ _ _ _ _ _ _ _ _ _ _ _ _ _ _ _ _ _ _ l h7 i N,E];exact hw3.2 l cap V E
  .by_cases ek:k=i
   .subst ek;rw[v]at m;cases m;rw[qf4 K]at c;cases c;refine⟨⟨A,ac,ta,tc,na,nc,VT,VN,rfl,k1,⟨I.1,k2.2.1,I.2.1,I.2.2⟩,hT.ae λb _ h=>⟨h.1,.inr h.2⟩,hN.ae λb _ h=>⟨h.1,.inr h.2⟩,?_⟩,λt=>?_⟩
    .by_cases U:x.args=[]
     .exact .inl ⟨λ_=>.i 0,by rw[U];exact aT.nil _ _ _ _⟩
     rcases q with q|⟨d,q,hA2⟩
     .exact .inl ⟨λ_=>.i 0,by rw[q];exact aT.nil _ _ _ _⟩
     .exact .inr ⟨d,q,hA2,U⟩
    .simp at t;omega
   .rw[qd1 od]at c;exact⟨((D k y u m c).1.move B r F).mono (λb C=>C.imp (λh=>oB) id),λt=>nU ((D k y u m c).2 (by simp at t;omega)) B F⟩
 .obtain⟨q1,q2,vs,cp,qo,ql,X⟩:=h.rows d p e hB;exact⟨q1,q2,vs,cp,zp qo f (.inr (by simp[Value.ownBlock];exact j)),ql,λk y u m c=>⟨by have h:=(X k y u m c).1.move B r F;simpa[j]using h,λt=>nU ((X k y u m c).2 (by simpa[j]using t)) B F⟩⟩
def jZ.none(ok:Nat->Prop)[DecidablePred ok](W:World):jZ W W (λb=>if ok b\/W.heap.size<=b then Option.none else some []) (λ_=>0):=⟨λg c e a=>(by split at e;cases e;cases e;exact absurd rfl a),bM _ _,λg c e=>(by split at e;cases e;omega)⟩
def Qw:(prog.info? 28).map (λi=>(i.zero,i.size,i.bytes))=some (some (.n0),1,24):=oA
def tsz:List (Nat×List Va)->Nat
 | []=>0
 | (_,xs)::l=>vsizes xs+1+tsz l
def Cw(g:Nat)(xs:List Va):∀l,tsz (l++[(g,xs)])=tsz l+(vsizes xs+1)
 | []=>by simp[tsz]
 | (_,a)::l=>by simp only[qd2,tsz,Cw g xs l];omega
def len_tsz:∀l,l.length<=tsz l
 | []=>kB _
 | (_,a)::l=>by have:=len_tsz l;simp only[jn,tsz];omega
def YN (M:Nat->Option (List Va)) (P:Nat->Nat) (g:Nat) (xs:List Va) (j:Nat) (a:Option Addr):Prop:=xs=[]\/a=some ⟨g,0,none⟩/\M g=some xs/\P g=j
structure nK (W w:World) (M:Nat->Option (List Va)) (P:Nat->Nat) (tb cap:Nat) (vs:List Value) (ts:List (Nat×List Va)):Prop where
 ren:jZ W w M P
 own:w.ownsRow W.heap.size 28 1 (.slice (some ⟨tb,0,none⟩) ts.length cap) ts.length vs
 OT:∀(i g:Nat) (xs:List Va),ts[i]?=some (g,xs)->∃a c,vs[i]?=some (Value.slice a xs.length c)/\YN M P g xs 0 a
 nd:(ts.map Prod.fst).Nodup
 blk:M tb=some []
 XV:∀g∈ts.map Prod.fst,g<w.heap.size
section
variable {W w w':World}{M:Nat->Option (List Va)}{P:Nat->Nat}{tb cap:Nat}{vs:List Value}{ts:List (Nat×List Va)}
def nK.grow(h:nK W w M P tb cap vs ts)(a:w.grownBy w' none):nK W w' M P tb cap vs ts :=
 ⟨h.ren.grow a,zp h.own a (.inr oX),h.OT,h.nd,h.blk,λg b=>jz (h.XV g b) a.size⟩
def nK.low(h:nK W w M P tb cap vs ts):W.heap.size<=tb:=(kp h.own tb rfl).1
def nK.pop{g:Nat}{xs:List Va}(h:nK W w M P tb cap vs (ts++[(g,xs)])):∃j a c,nK W w M P tb cap j ts/\w.cell? ⟨tb,ts.length,none⟩=some (.slice a xs.length c)/\YN M P g xs 0 a/\g ∉ ts.map Prod.fst:=by
 have n:=h.own.1;simp at n;obtain⟨a,c,e,u⟩:=h.OT ts.length g xs ot;have v:vs=vs.take ts.length++[.slice a xs.length c]:=by have k:=ur (l:=vs) (i:=ts.length) od;rw[<-n,qe2]at k;rw[qt od]at e;simp only[qk]at e;rw[<-e];exact k
 have o:=h.own;rw[v,qS]at o;have f:=h.nd;rw[qc2,qb5]at f;refine⟨vs.take ts.length,a,c,⟨h.ren,Av o,λi s x m=>?_,f.1,h.blk,λg d=>h.XV g (by rw[qc2];exact ja4 _ d)⟩,?_,u,λd=>f.2.2 _ d g ot rfl⟩
 .have b:=(jj.1 m).1;obtain⟨p,q,r,t⟩:=h.OT i s x (by rw[jt b];exact m);exact⟨p,q,by rw[List.getElem?_take_of_lt b];exact r,t⟩
 .have:=yy h.own (g:=tb) rfl ts.length _ e;rw[gI,qa4]at this;exact this
def nK.add{l:List Va}{g c:Nat}{us:List Value}(h:nK W w M P tb cap vs ts)(m:nI (λb=>M b≠none) w w' (.slice (some ⟨g,0,none⟩) l.length c) l us)(d:w.grownBy w' none)(f:l.length<=maxLen) :
 nK W w' (λb=>if b=g then some l else M b) (λb=>if b=g then 0 else P b) tb cap vs ts:=by
 have r:=(kp m.own g rfl).1;refine⟨h.ren.add m d f,zp h.own d (.inr oX),λi j n s=>?_,h.nd,?_,λg f=>jz (h.XV g f) d.size⟩
 .obtain⟨a,c,e,q⟩:=h.OT i j n s;refine⟨a,c,e,q.imp id λ⟨o,k,p⟩=>?_⟩;have:=h.ren.lt j n k;exact⟨o,by dsimp only;rw[oa];exact k,by dsimp only;rw[oa];exact p⟩
 .have:=h.ren.lt tb _ h.blk;show (if tb=g then _ else _)=_;rw[oa];exact h.blk
def nK.put{f:World}{g i:Nat}{xs:List Va}{x:Va}{l ta na:Option Addr}{ac tc nc:Nat}{VT VN:Nat->Value}(h:nK W w M P tb cap vs ts)(j:M g=some xs)(s:P g=i)(n:xs[i]?=some x)(t:x.args.length<=ac/\x.types.length<=tc/\x.code.length<=nc)
 (hT:dw (λb=>M b=none/\W.heap.size<=b) f x.types ta VT) (hN:cK (λb=>M b=none/\W.heap.size<=b) f x.code na VN) (hw:Wrote W.heap.size w f g i xs.length (.slice l x.args.length ac) (.slice ta x.types.length tc) (.slice na x.code.length nc)) (hA:x.args=[]\/∃d,l=some ⟨d,0,none⟩/\M d=some x.args) (hn:g ∉ ts.map Prod.fst) :
 nK W f M (λb=>if b=g then i+1 else P b) tb cap vs ts:=by
 refine⟨h.ren.put j s n t hT hN hw hA,zp h.own hw.1 (.inr (λe=>?_)),λk d v m=>?_,h.nd,h.blk,λg u=>jz (h.XV g u) hw.1.size⟩
 .simp only[Value.ownBlock,qk]at e;subst e;rw[h.blk]at j;cases j;simp at n
 .obtain⟨a,c,e,r⟩:=h.OT k d v m;refine⟨a,c,e,r.imp id λ⟨o,p,q⟩=>⟨o,p,?_⟩⟩;dsimp only;rw[if_neg (λe=>hn (by rw[<-e];exact qa7.2 ⟨_,qa1 m,rfl⟩))];exact q
def nK.push{g c:Nat}{xs:List Va}{v':Value}(h:nK W w M P tb cap vs ts)(B:M g=some xs)(I:P g=0)(K:g ∉ ts.map Prod.fst)
 (ho:w'.ownsRow W.heap.size 28 1 v' (ts.length+1) (vs++[.slice (some ⟨g,0,none⟩) xs.length c])) (hg:Gr w (.slice (some ⟨tb,0,none⟩) ts.length cap) w' v') :
 ∃o f d,v' =.slice (some ⟨f,0,none⟩) (ts.length+1) d/\nK W w' o P f d (vs++[.slice (some ⟨g,0,none⟩) xs.length c]) (ts++[(g,xs)])/\(∀b l,M b=some l->o b=some l)/\∀b l,o b=some l->l≠[]->M b=some l:=by
 have x:=h.own.1;simp at x;obtain⟨f,d,e⟩:∃f d,v' =.slice (some ⟨f,0,none⟩) (ts.length+1) d:=by
  rcases ho.2 with⟨_,O⟩|⟨j,L,E,e,_⟩
  .omega
  .exact⟨_,_,e⟩
 subst e;have k:∀o:Nat->Option (List Va),(∀b l,M b=some l->o b=some l)->∀(i j:Nat) (v:List Va),(ts++[(g,xs)])[i]?=some (j,v)->∃a y,(vs++[Value.slice (some ⟨g,0,none⟩) xs.length c])[i]?=some (Value.slice a v.length y)/\YN o P j v 0 a:=λo q i j v s=>by
  by_cases A:i<ts.length
  .rw[jt A]at s;obtain⟨a,y,e,H⟩:=h.OT i j v s;exact⟨a,y,by rw[jt od];exact e,H.imp id λ⟨F,z,G⟩=>⟨F,q _ _ z,G⟩⟩
  .have t:=(jj.1 s).1;simp at t;obtain rfl:i=ts.length:=by omega
   simp at s;obtain⟨rfl,rfl⟩:=s;exact⟨_,c,by rw[<-x];simp,.inr ⟨rfl,q _ _ B,I⟩⟩
 have u:((ts++[(g,xs)]).map Prod.fst).Nodup:=by rw[qc2,qb5];refine⟨h.nd,ot,λa J b C e=>?_⟩;simp at C;subst C;exact K (e ▸ J)
 have n:w'.ownsRow W.heap.size 28 1 (.slice (some ⟨f,0,none⟩) (ts++[(g,xs)]).length d) (ts++[(g,xs)]).length (vs++[.slice (some ⟨g,0,none⟩) xs.length c]):=by rw[qS];exact ho
 have D:∀b,(Value.slice (some ⟨tb,0,none⟩) ts.length cap).ownBlock=some b->M b=some []/\W.heap.size<=b:=λb e=>by simp only[Value.ownBlock,qk]at e;subst e;exact⟨h.blk,h.low⟩
 have m:∀j∈(ts++[(g,xs)]).map Prod.fst,j<w'.heap.size:=λj p=>by
  rw[qc2,qa0]at p;rcases p with p|p
  .exact jz (h.XV j p) hg.1.size
  .simp at p;subst p;exact jz (h.ren.lt _ _ B) hg.1.size
 rcases hg.2 with e|⟨N,e,z⟩
 .simp only[Value.ownBlock,qk]at e;subst e;exact⟨M,_,d,rfl,⟨h.ren.Qu hg.1 D,n,k M (λ_ _ h=>h),u,h.blk,m⟩,λ_ _ h=>h,λ_ _ h _=>h⟩
 .simp only[Value.ownBlock,qk]at e;subst e;have r:∀b l,M b=some l->(if b=f then some []else M b)=some l:=λb l e=>by rw[if_neg (by have:=h.ren.lt b l e;omega)];exact e
  exact⟨λb=>if b=f then some []else M b,f,d,rfl,⟨h.ren.aside hg.1 D z (World.ownsRow.lt ho f rfl).2,n,k _ r,u,if_pos rfl,m⟩,r,λb l e x=>by dsimp only at e;split at e;cases e;exact absurd rfl x;exact e⟩
def Fin (l:List Va) (a0:Option Addr) (M:Nat->Option (List Va)):Prop:=l=[]\/∃g,a0=some ⟨g,0,none⟩/\M g=some l
def Fin.mono{l:List Va}{c:Option Addr}{a:Nat->Option (List Va)}(h:Fin l c M)(f:∀b l,M b=some l->a b=some l):Fin l c a:=h.imp id λ⟨g,d,e⟩=>⟨g,d,f _ _ e⟩
def nI.slice{O:Nat->Prop}{v:Value}{l:List Va}{us:List Value}(h:nI O W w v l us):∃a c,v =.slice a l.length c/\l.length<=c:=by
 rcases h.own.2 with⟨rfl,b⟩|⟨g,cap,d,rfl,_,_,e,_⟩
 .exact⟨none,0,by rw[<-h.len,b],by rw[<-h.len,b];exact qv _⟩
 .exact⟨_,cap,by rw[h.len],by rw[<-h.len];exact e⟩
def nI.some{O:Nat->Prop}{a:Option Addr}{c:Nat}{l:List Va}{us:List Value}(h:nI O W w (.slice a l.length c) l us)(f:l≠[]):∃g,a =.some ⟨g,0,none⟩:=by
 rcases h.own.2 with⟨e,d⟩|⟨g,cap,b,e,_⟩
 .exact absurd (ju (by rw[<-h.len,d])) f
 .simp only[ke]at e;exact⟨g,e.1⟩
def KH{l:List Va}{c:Option Addr}{d:Nat}{us:List Value}(y:Dn M P λ_=>False)(R:jZ W W M P)(z:nI (λb=>M b≠none) W w (.slice c l.length d) l us)(r:W.grownBy w none)(j:l.length<=maxLen) :
 ∃p t g,nK W (w.alloc (.cells #[.slice c l.length d] 28)) p t w.heap.size 1 [.slice c l.length d] [(g,l)]/\Fin l c p/\Dn p t (λq=>q=g/\l≠[]):=by
 have x:=qT w (.cells #[.slice c l.length d] 28);have k:=aK (w:=w) (.cells #[.slice c l.length d] 28);have f:w.heap.size<(w.alloc (.cells #[.slice c l.length d] 28)).heap.size:=(qq.1 x).1;have h:(w.alloc (.cells #[.slice c l.length d] 28)).ownsRow W.heap.size 28 1 (.slice (some ⟨w.heap.size,0,none⟩) 1 1) 1 [.slice c l.length d] :=
  ⟨rfl,.inr ⟨w.heap.size,1,_,rfl,r.size,x,qv _,oT,rfl,rfl⟩⟩
 by_cases o:l=[]
 .exact⟨_,_,w.heap.size,⟨(R.grow r).aside k (λ_ e=>by cases e) (qv _) f,h,λi v n a=>by
   match i,a with
   | 0,a =>
    simp only[kl,qk,zd]at a;obtain⟨rfl,rfl⟩:=a;exact⟨c,d,rfl,.inl o⟩
   | i+1,a=>simp at a,ot,if_pos rfl,λg j=>by simp at j;subst j;exact f⟩,.inl o,λb n e m=>by dsimp only at e;split at e;cases e;exact absurd rfl m;exact .inr ((y b n e m).resolve_left id)⟩
 .obtain⟨g,rfl⟩:=z.some o;have u:=R.add z r j;have s:=u.lt g l (if_pos rfl);refine⟨_,_,g,⟨u.aside k (λ_ e=>by cases e) (qv _) f,h,λi v n a=>?_,ot,if_pos rfl,λv j=>by simp at j;subst j;exact Nat.lt_trans s f⟩,.inr ⟨g,rfl,?_⟩,?_⟩
  .match i,a with
   | 0,a =>
    simp only[kl,qk,zd]at a;obtain⟨rfl,rfl⟩:=a;exact⟨_,d,rfl,.inr ⟨rfl,by dsimp only;rw[oa,if_pos rfl],by dsimp only;rw[if_pos rfl]⟩⟩
   | i+1,a=>simp at a
  .dsimp only;rw[oa,if_pos rfl]
  .intro b n e m;dsimp only at e|-;split at e
   .cases e;exact absurd rfl m
   .by_cases A:b=g
    .exact .inl ⟨A,o⟩
    .rw[if_neg A]at e|-;exact .inr ((y b n e m).resolve_left id)
def Oe{l:List Va}{k:Option Addr}(R:jZ W w M P)(m:Dn M P λ_=>False)(hF:Fin l k M):∃V,aT (W.heap.size <= ·) w l k V:=by
 by_cases f:l=[]
 .exact⟨λ_=>.i 0,by rw[f];exact aT.nil _ _ _ _⟩
 .rcases hF with h|⟨g,rfl,n⟩
  .exact absurd h f
  .obtain⟨p,r,x,cap,s,j,q⟩:=R.rows g l n f;have u:=(m g l n f).resolve_left id;obtain⟨a,c,V,e,_,h⟩:=uG (ok:=(W.heap.size <= ·)) s j (λi y v o t=>Kj R m _ y v (qv _) ((q i y v o t).1.mono λb d=>by
    rcases d with d|d
    .have:=(jj.1 o).1;omega
    .exact d)) (λb e=>by simp only[Value.ownBlock,qk]at e;subst e;exact p) r
   simp only[ke]at e;obtain⟨rfl,_⟩:=e;exact⟨V,h⟩
def Put (W:World) (M:Nat->Option (List Va)) (P:Nat->Nat) (tb cap:Nat) (vs:List Value) (ts:List (Nat×List Va)) (g j:Nat) (x:Va) (wx:World):Prop:=∃M' P' aa ac,nK W wx M' P' tb cap vs ts/\(∀b l,M b=some l->M' b=some l)/\P' g=j+1/\wx.cell? ⟨g,j*7+4,none⟩=some (.slice aa x.args.length ac)/\(x.args=[]\/∃g',aa=some ⟨g',0,none⟩/\M' g'=some x.args/\P' g'=0/\g' ∉ ts.map Prod.fst/\g'≠g)/\∀X,Dn M P X->Dn M' P' λq=>X q\/x.args≠[]/\aa=some ⟨q,0,none⟩
def UK{g j r s i:Nat}{xs:List Va}{x:Va}{w0 m q:World}{us:List Value}{o H I:Option Addr}{O Q:Nat->Value}(h:nK W w0 M P tb cap vs ts)(z:M g=some xs)(J:P g=j)(w:xs[j]?=some x)(Z:g ∉ ts.map Prod.fst)(C:x.args.length<=maxLen)
 (hK:nI (λb=>M b≠none) w0 m (.slice o x.args.length i) x.args us) (g1:w0.grownBy m none) (hc:x.args.length<=i/\x.types.length<=r/\x.code.length<=s) (hT:dw (m.heap.size <= ·) q x.types H O) (hN:cK (m.heap.size <= ·) q x.code I Q)
 (hw:Wrote W.heap.size m q g j xs.length (.slice o x.args.length i) (.slice H x.types.length r) (.slice I x.code.length s)) :
 Put W M P tb cap vs ts g j x q:=by
 have Y:=h.ren.lt g xs z;have N:=g1.size;have D:xs≠[]:=λe=>by rw[e]at w;simp at w
 have u:∀(f:Nat->Option (List Va)) (v:Nat->Nat),nK W m f v tb cap vs ts->f g=some xs->v g=j->(x.args=[]\/∃d,o=some ⟨d,0,none⟩/\f d=some x.args)->nK W q f (λb=>if b=g then j+1 else v b) tb cap vs ts/\q.cell? ⟨g,j*7+4,none⟩=some (.slice o x.args.length i):=λf v T t A S=>by
  have K:∀b,m.heap.size<=b->f b=none:=λb c=>by
   cases e:f b with
   | none=>rfl
   | some l=>have:=T.ren.lt b l e;omega
  refine⟨T.put t A w hc (hT.ae λb _ c=>⟨K b c,kh (kh h.ren.gr.size N) c⟩) (hN.ae λb _ c=>⟨K b c,kh (kh h.ren.gr.size N) c⟩) hw S Z,?_⟩;obtain⟨_,_,G,R,L,p,_⟩:=T.ren.rows g xs t D;have hj:=(jj.1 w).1;have U:=L.1;have:=yy (hw.2 G R L p) (g:=g) rfl (j*7+4) (.slice o x.args.length i) (by rw[qd1 od,qd1 od,qf4 od])
  rw[gI,qa4]at this;exact this
 by_cases p:x.args=[]
 .obtain⟨E,F⟩:=u M P (h.grow g1) z J (.inl p);refine⟨M,_,o,i,E,λ_ _ h=>h,if_pos rfl,F,.inl p,λX B b n e a=>?_⟩;rcases B b n e a with k|k
  .exact .inl (.inl k)
  .refine .inr ?_;dsimp only;split
   .rename_i y;subst y;omega
   .exact k
 .obtain⟨d,rfl⟩:=hK.some p;have V:=(kp hK.own d rfl).1;obtain⟨E,F⟩:=u _ _ (h.add hK g1 C) (by rw[oa];exact z) (by rw[oa];exact J) (.inr ⟨d,rfl,if_pos rfl⟩);refine⟨_,_,_,i,E,λb l e=>by have:=h.ren.lt b l e;rw[oa];exact e,if_pos rfl,F,.inr ⟨d,rfl,if_pos rfl,by rw[oa,if_pos rfl],λC=>by have:=h.XV d C;omega,od⟩,λX B b n e a=>?_⟩
  by_cases c:b=d
  .exact .inl (.inr ⟨p,by rw[c]⟩)
  .dsimp only at e|-;rw[if_neg c]at e|-;rcases B b n e a with k|k
   .exact .inl (.inl k)
   .refine .inr ?_;split
    .rename_i y;subst y;omega
    .exact k
end
def xK{l:Array Bool}{i j:Nat}{d:Bool}(h:i≠j):(l.setIfInBounds j true).getD i d=l.getD i d:=by simp only[yi,je5 (Ne.symm h)]
def Wh{l:Array Bool}{i j:Nat}(h:l.getD i false=true):(l.setIfInBounds j true).getD i false=true:=by
 by_cases e:i=j
 .subst e;have a:i<l.size:=by
   apply qh5;intro b;rw[yi,jf7 od]at h;cases h
  simp only[yi,qe1 a,jd0]
 .rw[xK e];exact h
def Ls{l:Array Bool}{i j:Nat}(h:(l.setIfInBounds j true).getD i true=false):l.getD i true=false:=by
 by_cases e:i=j
 .subst e
  by_cases a:i<l.size
  .simp[yi,qe1 a]at h
  .rw[yi,jf7 oB]at h;cases h
 .rw[xK e]at h;exact h
def Xl{l:Array Bool}{i:Nat}(h:l.getD i true=false):l.getD i false=false:=by
 by_cases a:i<l.size
 .simp only[yi,qa6 a,jd0]at h|-;exact h
 .rw[yi,jf7 od];rfl
section
variable {P:Program}{md:Region.Mode}{ops:Array Oper}{Q:Exit->Act->World->Prop}
def xS{l:Array Bool}{j:Nat} : j∈Region.ready md ops l ↔ l.getD j true=false/\∃o,ops[j]?=some o/\∀e∈o.after,Region.binds md e=true->l.getD e.on false=true:=by
 unfold Region.ready;simp only[jc3,List.mem_range,qu,ja1];constructor
 .rintro⟨f,b,a⟩;refine⟨b,ops[j],qa6 f,λe d c=>?_⟩;rw[qa6 f,qg6,jd0,ja6]at a;have:=a e d;rw[c]at this;simpa using this
 .rintro⟨b,o,g,a⟩;refine⟨(qq.1 g).1,b,?_⟩;rw[g,qg6,jd0,ja6];intro e d
  cases c:Region.binds md e with
  | false=>rfl
  | true=>rw[a e d c];rfl
def Held (cs:List (Nat×(World->Prop))) (l:Array Bool) (w:World):Prop:=∀c∈cs,l.getD c.1 true=false->c.2 w
def KR (P:Program) (md:Region.Mode) (ops:Array Oper) (Q:Exit->Act->World->Prop) (cs:List (Nat×(World->Prop))):Nat->Array Bool->Act->World->Prop
 | 0,l,a,w=>Region.ready md ops l=[]/\Q .normal a w
 | n+1,l,a,w=>(Region.ready md ops l=[]->Q .normal a w)/\∀i∈Region.ready md ops l,wpOp P ops Q i (λa' w'=>Held cs (l.setIfInBounds i true) w'/\KR P md ops Q cs n (l.setIfInBounds i true) a' w') a w
def Gc{cs:List (Nat×(World->Prop))} : ∀(n:Nat) (l:Array Bool) (a:Act) (w:World),KR P md ops Q cs n l a w->wpAny P md ops Q n l a w
 | 0,_,_,_,h=>h
 | n+1,_,_,_,h=>⟨h.1,λi d=>wpOp_mono (λb w' c=>Gc n _ b w' c.2) (h.2 i d)⟩
def Ex{cs:List (Nat×(World->Prop))}{i:Nat}{u:Oper}{v:Value}{R:World->Prop}(hi:ops[i]?=some u)(t:∀(j:Nat) (o:Oper) cs b,ops[j]?=some o->o.op ≠ .select cs b)(hQ:∀c a w,Q (.panic c) (a.put u.dst v) w->Q (.panic c) a w)(hn:i ∉ cs.map Prod.fst)
 (K:Nat->Prop) (hK:∀k,K k->∃o,ops[k]?=some o/\∃e∈o.after,Region.binds md e=true/\e.on=i) (hR:∀(l:Array Bool) w,(∀k,K k->l.getD k true=false)->Held cs l w->R w) :
 ∀(n:Nat) (l:Array Bool) (a:Act) (w:World),(∀j g,ops[j]?=some g->j≠i->l.getD j true=false->(∀e∈g.after,Region.binds md e=true->e.on≠i)->u.apart ops g=true) ->
  i∈Region.ready md ops l->(∀k,K k->l.getD k true=false)->YieldsIf P ops R u v a->Held cs l w->KR P md ops Q cs n (l.setIfInBounds i true) (a.put u.dst v) w->KR P md ops Q cs (n+1) l a w:=λn=>by
 have F:∀c∈cs,c.1≠i:=λc z e=>hn (e ▸ List.mem_map_of_mem z);have self:∀(m:Nat) (l:Array Bool) (a:Act) (w:World),(∀k,K k->l.getD k true=false)->YieldsIf P ops R u v a->Held cs l w->KR P md ops Q cs m (l.setIfInBounds i true) (a.put u.dst v) w->wpOp P ops Q i (λJ w'=>Held cs (l.setIfInBounds i true) w'/\KR P md ops Q cs m (l.setIfInBounds i true) J w') a w:=λm l a w C D B h =>
  YieldsIf.wpOp hi D (hR l w C B) ⟨λc z e=>B c z (by rw[xK (F c z)]at e;exact e),h⟩
 have p:∀(l:Array Bool) (j:Nat),i∈Region.ready md ops l->j∈Region.ready md ops l->j≠i->j∈Region.ready md ops (l.setIfInBounds i true)/\∃g,ops[j]?=some g/\l.getD j true=false/\∀e∈g.after,Region.binds md e=true->e.on≠i:=λl j d O f=>by obtain⟨x,g,s,I⟩:=xS.1 O;have G:=Xl (xS.1 d).1;exact⟨xS.2 ⟨by rw[xK f];exact x,g,s,λe A r=>Wh (I e A r)⟩,g,s,x,λe A r Z=>by rw[<-Z,I e A r]at G;cases G⟩
 induction n with
 | zero =>
  intro l a w y d C D B h;refine⟨λe=>(by rw[e]at d;cases d),λj N=>?_⟩
  by_cases f:j=i
  .subst f;exact self 0 l a w C D B h
  .have x:=(p l j d N f).1;rw[h.1]at x;cases x
 | succ n ih =>
  intro l a w y d C D B h;refine⟨λe=>(by rw[e]at d;cases d),λj N=>?_⟩
  by_cases f:j=i
  .subst f;exact self (n+1) l a w C D B h
  .obtain⟨x,g,s,I,W⟩:=p l j d N f;have h5:=wpOp_putIf s (y j g s f I W) (λcs b=>t i u cs b hi) (λcs b=>t j g cs b s) hQ D (h.2 j x);refine wpOp_mono (λJ w' h'=>?_) h5;obtain⟨V,M,hW⟩:=h';have E:Held cs (l.setIfInBounds j true) w':=λc z e=>M c z (by
    by_cases L:c.1=j
    .rw[L]at e|-;have:=Ls e
     by_cases r:j<l.size
     .simp[yi,qe1 r]at e
     .rw[yi,jf7 od]at this;cases this
    .rw[xK L,xK (F c z)];rw[xK L]at e;exact e)
   have S:∀k,K k->(l.setIfInBounds j true).getD k true=false:=λk H=>by obtain⟨o,ho,e,A,r,X⟩:=hK k H;rw[xK (λY=>by subst Y;rw[ho]at s;cases s;exact W e A r X)];exact C k H
   refine⟨E,ih (l.setIfInBounds j true) J w' (λq oq hq T U=>y q oq hq T (Ls U)) ?_ S V E ?_⟩
   .obtain⟨m1,o,m2,m3⟩:=xS.1 d;exact xS.2 ⟨by rw[xK (Ne.symm f)];exact m1,o,m2,λe A r=>Wh (m3 e A r)⟩
   .rw[Array.setIfInBounds_comm true true f];exact hW
def dN{cs:List (Nat×(World->Prop))}{i:Nat}{b:Oper}{v:Value}{n:Nat}{l:Array Bool}{a:Act}{w:World}(d:Option Tmp)(g:Held cs l w)(h:KR P md ops Q cs n (l.setIfInBounds i true) (a.put d v) w)(hi:ops[i]?=some b:=by rfl)(j:b.dst=d:=by rfl)(p:Region.noSelect ops=true:=by kernel_rfl)(k:Region.free md ops l i=true:=by kernel_rfl)(o:(Region.ready md ops l).contains i=true:=by kernel_rfl)(f:∀c a w,Q (.panic c) (a.put b.dst v) w->Q (.panic c) a w:=by exact λ_ _ _ h=>h)(e:(cs.map Prod.fst).contains i=false:=by rfl)
 (hy:YieldsIf P ops (λ_=>True) b v a:=by exact Or.inl ⟨by rfl,λw _=>by go_simp;with_reducible rfl⟩):KR P md ops Q cs (n+1) l a w :=
 Ex hi (Region.noSelect_spec p) f (λm=>by rw[List.contains_iff_mem.2 m]at e;cases e) (λ_=>False) (λ_ h=>h.elim) (λ_ _ _ _=>trivial) n l a w (Region.free_spec hi k) (by simpa using o) (λ_ h=>h.elim) hy g (by rw[j];exact h)
def fP{l:Array Bool}{w:World} : Held [] l w:=λ_ h=>by cases h
def bL{k:Nat}{R:World->Prop}{cs:List (Nat×(World->Prop))}{l:Array Bool}{w:World}(h:l.getD k true=true\/R w)(t:Held cs l w):Held ((k,R)::cs) l w:=λc a e=>by
 rcases xb.1 a with rfl|a
 .rcases h with h|h
  .rw[h]at e;cases e
  .exact h
 .exact t c a e
def ry{cs:List (Nat×(World->Prop))}{i k:Nat}{b:Oper}{v:Value}{n:Nat}{l:Array Bool}{a:Act}{w:World}{R:World->Prop}(d:Option Tmp)(s:Held cs l w)(t:(k,R)∈cs)(D:YieldsIf P ops R b v a)(h:KR P md ops Q cs n (l.setIfInBounds i true) (a.put d v) w)(hi:ops[i]?=some b:=by rfl)(u:b.dst=d:=by rfl)(C:Region.noSelect ops=true:=by kernel_rfl)(y:Region.free md ops l i=true:=by kernel_rfl)(B:(Region.ready md ops l).contains i=true:=by kernel_rfl)(r:∀c a w,Q (.panic c) (a.put b.dst v) w->Q (.panic c) a w:=by exact λ_ _ _ h=>h)(m:(cs.map Prod.fst).contains i=false:=by rfl)
 (hk:l.getD k true=false:=by kernel_rfl) (hw:((ops[k]?).map λo=>o.after.any λe=>Region.binds md e&&e.on==i)=some true:=by kernel_rfl):KR P md ops Q cs (n+1) l a w :=
 Ex hi (Region.noSelect_spec C) r (λz=>by rw[List.contains_iff_mem.2 z]at m;cases m) (λq=>q=k) (λq g=>by subst g;obtain⟨o,A,f⟩:=km.1 hw;obtain⟨e,x,j⟩:=Array.any_eq_true'.1 f;simp only[qu,beq_iff_eq]at j;exact⟨o,A,e,x,j⟩) (λE w' p f=>f _ t (p k rfl)) n l a w (Region.free_spec hi y) (by simpa using B) (λq g=>by rw[g];exact hk) D s (by rw[u];exact h)
def uP{cs:List (Nat×(World->Prop))}{l:Array Bool}{a:Act}{w:World}(b:Region.ready md ops l=[])(h:Q .normal a w):∀n,KR P md ops Q cs n l a w
 | 0=>⟨b,h⟩
 | n+1=>⟨λ_=>h,by rw[b];simp⟩
def wR{cs:List (Nat×(World->Prop))}{d:Nat}{a:Act}{w:World}(n:Nat)(c:ops.size=n)(b:P.follows .mixedOrders=true)(h:KR P .any ops Q cs n (Array.replicate n false) a w.drew):(Code.region d ops true).wp P Q a w:=wp_region_any b (by rw[c];exact Gc _ _ _ _ h)
def iE (P:Program) (md:Region.Mode) (ops:Array Oper) (Q:Exit->Act->World->Prop) (cs:List (Nat×(World->Prop))) (n:Nat) (l:Array Bool) (a:Act) (w:World) (rs:List Nat):Prop:=∀i∈rs,wpOp P ops Q i (λa' w'=>Held cs (l.setIfInBounds i true) w'/\KR P md ops Q cs n (l.setIfInBounds i true) a' w') a w
def gU{cs:List (Nat×(World->Prop))}{rs:List Nat}{n:Nat}{l:Array Bool}{a:Act}{w:World}(c:Region.ready md ops l=rs)(b:rs.isEmpty=false)(h:iE P md ops Q cs n l a w rs):KR P md ops Q cs (n+1) l a w :=
 ⟨λe=>(by rw[c]at e;rw[e]at b;cases b),by rw[c];exact h⟩
def iE.nil{cs:List (Nat×(World->Prop))}{n:Nat}{l:Array Bool}{a:Act}{w:World} : iE P md ops Q cs n l a w []:=λ_ h=>by cases h
def iE.cons{cs:List (Nat×(World->Prop))}{n:Nat}{l:Array Bool}{a:Act}{w:World}{i:Nat}{o:Oper}{rs:List Nat}(f:ops[i]?=some o)
 (h:∀K:Act->World->Prop,Shut (∀a w,Held cs (l.setIfInBounds i true) w->KR P md ops Q cs n (l.setIfInBounds i true) a w->K a w)->if Region.wanted o (yielded ops a.tmps)=true then Oper.wp P o a w K Q else K (a.put o.dst undef) w)
 (hs:iE P md ops Q cs n l a w rs):iE P md ops Q cs n l a w (i::rs):=λj b=>by
 rcases xb.1 b with rfl|b
 .exact wpOp_step f (λK c=>h K (λa w d e=>c a w ⟨d,e⟩))
 .exact hs j b
end
def Tu (W:World) (l:List Va) (e:Ending) (w':World):Prop:=∃a c V,e =.returned (.slice a l.length c)/\l.length<=c/\aT (W.heap.size <= ·) w' l a V/\W.grownBy w' none
def Sz (l:List Va):Prop:=∀x∈l,x.size<=10000000
def WM (W:World) (l:List Va) (a0:Option Addr) (k:Nat) (tv:Value) (wr:World):Prop:=∃M P tb cap vs ts,tv =.slice (some ⟨tb,0,none⟩) ts.length cap/\nK W wr M P tb cap vs ts/\Fin l a0 M/\tsz ts<=k/\k<=vsizes l+1/\(∀p∈ts,Sz p.2)/\Dn M P λq=>∃ys,(q,ys)∈ts/\ys≠[]
def Tt (W:World) (l:List Va) (a0:Option Addr) (k g:Nat) (xs:List Va) (a:Option Addr) (tv iv:Value) (wr:World):Prop:=∃(j:Nat) (M:Nat->Option (List Va)) (P:Nat->Nat) (tb cap:Nat) (vs:List Value) (ts:List (Nat×List Va)),j<=xs.length/\iv =.i j/\tv =.slice (some ⟨tb,0,none⟩) ts.length cap/\nK W wr M P tb cap vs ts/\Fin l a0 M/\YN M P g xs j a/\g ∉ ts.map Prod.fst/\tsz ts+vsizes (xs.drop j)+1<=k/\(∀p∈ts,Sz p.2)/\Dn M P λq=>(∃ys,(q,ys)∈ts/\ys≠[])\/q=g/\xs≠[]
def zi{w:World}{B e g n c j k:Nat}{L:List Value}(h:w.ownsRow B e 7 (.slice (some ⟨g,0,none⟩) n c) n L)(a:j<n)(hk:k<7):∃v,w.cell? ⟨g,j*7+k,none⟩=some v:=by have b:=h.1;have:=yy h (g:=g) rfl (j*7+k) _ (qt od);rw[gI,qa4]at this;exact⟨_,this⟩
def IK{x y:Va}(h:y∈x.args):y.size<=x.size:=by have:=fO h;have:=eP x;omega
def Yo{c:Array Oper}{b:List Oper}{o:Oper}{a:Act}{Q:Exit->Act->World->Prop}(B:Nat)(us:List Value)(sa:Option Addr)(sl sc:Nat)(w0:World)(v:Value)(d:o.guard=none)(s x:Operand)
 (ho:o.op =.call { callee:=.builtin .append,args:=#[s,x],argTypes:=#[86,86] }) (hs:a.eval s=v) {H:Nat} (hx:a.eval x =.slice (some ⟨H,0,none⟩) 1 1) (hH:w0.heap.size=H)
 (hown:kD B w0 v us) (hB:B<=w0.heap.size) (hlen:us.length<=8000000000)
 (h:∀v' w',kD B w' v' (us++[.slice sa sl sc])->Gr w0 v w' v'->wpList prog c Q b (a.put o.dst v') w') :
 wpList prog c Q (o::b) a (w0.alloc (.cells #[.slice sa sl sc] 28)):=by
 subst hH;refine ed d s x 86 ho B 28 underlying86 Qw rfl ov v us.length us hs (xo hown _) _ 1 [.slice sa sl sc] hx rfl (gZ.new _ _ _ _ _) ?_ ?_ ?_ ?_ ?_
 .intro u e;simp at e;subst e;rfl
 .unfold maxLen;omega
 .omega
 .simp;omega
 .intro v' w' f g _;exact h v' w' (by unfold kD;rw[qS];exact f) (Gr.trans (Gr.alloc (Gr.refl w0 v) _) g)
def zT{ok:Nat->Prop}{W:World}{l:List Va}{a:Option Addr}{c:Nat}{V:Nat->Value}(h:aT ok W l a V)(hn:vsizes l<=4000000000)(hs:Sz l)(B:l.length<=20000000):Calls prog 31 #[.slice a l.length c] W (Tu W l):=by
 classical
 have HR:=jh (jZ.none ok W);have cS:l.length<=vsizes l:=kS l;have HC:=jh (wB (O:=λb=>(if ok b\/W.heap.size<=b then Option.none else some ([]:List Va))≠none) (Src.row (c:=c) (h.ae λb _ E=>by simp[E])) B);have cy:Hid (l.length<=maxLen):=h.1;have HN:=jh hn;have cE:=jh hs;clear h cS hn hs B;go_enter func31,ntmps31;go_wp2_with ((go_at_call 51;(with_reducible refine HC.out.mono ?_);rintro e w1 ⟨v,us,rfl,r,hg⟩;obtain⟨X,c0,rfl,bx⟩:=r.slice;have HK:=jh r;have HG:=jh hg;have cq:=jh bx;clear hg r bx));have bf:Hid (WM W l X (vsizes l+1) (.slice (some ⟨w1.heap.size,0,none⟩) 1 1) (w1.alloc (.cells #[.slice X l.length c0] 28))):=by obtain⟨M,P,g,h1,B,h3⟩:=KH (λb q e F=>by split at e;cases e;cases e;exact absurd rfl F) HR.out HK.out HG.out cy.out;exact⟨M,P,_,1,_,_,rfl,h1,B,by simp[tsz],qv _,λp U=>by simp at U;subst U;exact cE.out,λb q e F=>(h3 b q e F).imp (λ⟨e,hl⟩=>⟨l,by simp[e],hl⟩) id⟩
 generalize w1.alloc (.cells #[.slice X l.length c0] 28)=w2 at *;clear HK HC HR;go_loopg [3] (vsizes l+1) (λk tv wr=>WM W l X k tv wr)
 case atStart=>exact bf
 case round =>
  obtain⟨M,P,tb,cap,vs,ts,rfl,S,hF,hz,hk,A,z⟩:=hrel;rcases List.eq_nil_or_concat ts with rfl|⟨ts,⟨g,q⟩,rfl⟩
  .obtain⟨V',hV⟩:=Oe S.ren (λb q e F=>(z b q e F).imp (λ⟨_,h,_⟩=>by simp at h) id) hF;have HE:Hid (Tu W l (.returned (.slice X l.length c0)) wr):=⟨_,c0,V',rfl,cq,hV,S.ren.gr⟩;clear S hF hz hk hV A z;go_wp2_with fail;go_ret;exact HE
  .rw [List.concat_eq_append]at *;obtain⟨cY,a2,c2,T,ay,hE,H⟩:=S.pop;rw[Cw]at hz;have aE:ts.length<=8000000000:=by have h1:=len_tsz ts;have B:=HN.out;omega
   have bh:Hid (Tt W l X gk g q a2 (.slice (some ⟨tb,0,none⟩) ts.length cap) (.i 0) wr):=⟨0,M,P,tb,cap,cY,ts,kB _,rfl,rfl,T,hF,hE,H,by simpa using (by omega:tsz ts+vsizes q+1<=gk),λp U=>A p (by simp[U]),λb ys e F=>(z b ys e F).imp (λ⟨zs,h,I⟩=>by
    rcases qa0.1 h with h|h
    .exact .inl ⟨zs,h,I⟩
    .simp at h;exact .inr ⟨h.1,h.2 ▸ I⟩) id⟩
   have cJ:Hid (Sz q):=A (g,q) ot;have HK:=jh hk;have db:ts.length<=cap:=by
    rcases T.own.2 with⟨e,_⟩|⟨_,_,_,e,_,_,m,_⟩
    .cases e
    .simp only[ke]at e;omega
   clear S T hF hE H hz hk bf A z;simp only[qS,jn,xT,qa4];go_wp2_with fail;go_loopw [3,27] (λtv iv wr=>Tt W l X gk g q a2 tv iv wr) (λ_ iv _=>q.length - (intOf iv).toNat)
   case atStart=>exact bh
   case round =>
    obtain⟨j,M,P,tb,cap,vs,ts,hj,rfl,rfl,S,hF,hE,H,hz,A,z⟩:=hrel
    by_cases f:j<q.length
    .have d1:(j:Int)<(q.length:Int):=by omega
     rcases hE with rfl|⟨rfl,hM,hP⟩
     .simp at f
     have C:=qt f;generalize q[j]=x at C;obtain⟨dq,cW,us,cp,L,aO,he⟩:=S.ren.rows g q hM (by rintro rfl;simp at f);have aC:j<us.length:=by rw[aO];exact f
     have hL:=(he j x us[j] C (qt aC)).2 od;obtain⟨aa,ac,ta,tc,na,nc,VA,VT,VN,eu,_,hA,bw,bp⟩:=hL.inv;have cj:us[j]?=some (bg x.k x.n x.a x.s aa x.args.length ac ta x.types.length tc na x.code.length nc):=by rw[qt aC,eu]
     have h7:∀u∈us,(nodeCells u).length=7:=λu hu=>by obtain⟨k,hk,rfl⟩:=ye hu;obtain⟨_,_,_,_,_,_,_,_,e,_⟩:=(he k q[k] us[k] (qt od) (qt hk)).1;rw[e];rfl
     have ah:∀(k:Nat) (v:Value),(nodeCells (bg x.k x.n x.a x.s aa x.args.length ac ta x.types.length tc na x.code.length nc))[k]?=some v->k<7->wr.cell? ⟨g,j*7+k,none⟩=some v:=λk v hv hk=>by have:=yy L (g:=g) rfl (j*7+k) v (by rw[flatV_get us h7 j k _ cj hk];exact hv);rw[gI,qa4]at this;exact this
     have c4:=ah 4 _ rfl od;have c5:=ah 5 _ rfl od;have c6:=ah 6 _ rfl od;have cc:vsizes (q.drop j)=x.size+vsizes (q.drop (j+1)):=by rw[qa5 f];rw[qt f]at C;simp only[qk]at C;simp only[vsizes,C]
     have cl:=eP x;have cR:=HK.out;have cU:=HN.out;have J:∀t,wr.grownBy t (some g)->Same (λb=>M b=none) wr t:=λt B b o E f=>qn (B.block b f (λe=>by cases e;rw[hM]at E;cases E));have cP:=kS x.args;have ck:=cJ.out x (qa1 C);obtain⟨cH,bj,cv⟩:=we ck A z;have cr:Hid (∀t,wr.grownBy t none->Calls prog 51 #[.slice aa x.args.length ac] t (IV (λb=>M b≠none) t x.args)):=λt B=>wB (Src.row ((hA.same (λb o E f=>qn (B.block b f ot))).ae λb _ E=>by simpa using E)) od;have ct:Hid (∀t,wr.grownBy t (some g)->Calls prog 54 #[.slice ta x.types.length tc] t (Sw t x.types)):=λt B=>copiedT_any 20000000 od (qv _) ((bw.same (J t B)).ae λ_ _ _=>trivial);have cu:Hid (∀t,wr.grownBy t (some g)->Calls prog 55 #[.slice na x.code.length nc] t (Sv t x.code)):=λt B=>copiedN_any 20000000 od (qv _) ((bp.same (J t B)).ae λ_ _ _=>trivial);obtain⟨HT,HF,HM,HP,cI,aj,HO⟩:=wi S hF hM hP C H L;have ak:Hid (tsz ts+(x.size+vsizes (q.drop (j+1)))+1<=gk):=by rw[cc]at hz;exact hz
     have cm:Hid (x.args.length<=maxLen):=hA.1;have cF:=jh aO;clear S hF hM hP C H L hz hL ah cj h7 eu hA bw bp he cl cc cR cU J cP aO aC bh ay ck A z;unfold maxLen at cW
     go_upto_region 11 with (fail)
     go_cut [] (λwx=>Put W M P tb cap vs ts g j x wx)
     case first =>
      have d:Hid (∀c∈[((7:Nat),λw:World=>w.cell? ⟨g,j*7+4,none⟩=some (.slice aa x.args.length ac)),(12,λw=>w.cell? ⟨g,j*7+5,none⟩=some (.slice ta x.types.length tc)),(17,λw=>w.cell? ⟨g,j*7+6,none⟩=some (.slice na x.code.length nc))],c.2 wr.drew):=by
       intro c m;simp only[xb,qf1,or_false]at m;rcases m with rfl|rfl|rfl
       .exact c4
       .exact c5
       .exact c6
      refine wR (cs:=[((7:Nat),λw:World=>w.cell? ⟨g,j*7+4,none⟩=some (.slice aa x.args.length ac)),(12,λw=>w.cell? ⟨g,j*7+5,none⟩=some (.slice ta x.types.length tc)),(17,λw=>w.cell? ⟨g,j*7+6,none⟩=some (.slice na x.code.length nc))]) 27 oA oA ?_;refine dN (i:=0) (some 33) (λc m _=>d.out c m) ?_;simp only[Act.put,kO,xF,zE];refine dN (i:=1) (some 34) (λc m _=>d.out c m) ?_;simp only[Act.put,kO,xF,zE];refine dN (i:=2) (some 35) (λc m _=>d.out c m) ?_;simp only[Act.put,kO,xF,zE];refine dN (i:=3) (some 36) (λc m _=>d.out c m) ?_;simp only[Act.put,kO,xF,zE];refine dN (i:=4) (some 37) (λc m _=>d.out c m) ?_;simp only[Act.put,kO,xF,zE];refine dN (i:=5) (some 38) (λc m _=>d.out c m) ?_;simp only[Act.put,kO,xF,zE];refine ry (i:=6) (k:=7) (some 39) (λc m _=>d.out c m) (.head _) (Or.inl ⟨by rfl,λw hw=>by dsimp only at hw;go_simp;with_reducible rfl⟩) ?_ (hi:=rfl);simp only[Act.put,kO,xF,zE];refine dN (i:=8) (some 41) (λc m _=>d.out c m) ?_;simp only[Act.put,kO,xF,zE];refine dN (i:=9) (some 42) (λc m _=>d.out c m) ?_;simp only[Act.put,kO,xF,zE];refine dN (i:=10) (some 43) (λc m _=>d.out c m) ?_;simp only[Act.put,kO,xF,zE];refine ry (i:=11) (k:=12) (some 44) (λc m _=>d.out c m) (.tail _ (.head _)) (Or.inl ⟨by rfl,λw hw=>by dsimp only at hw;go_simp;with_reducible rfl⟩) ?_ (hi:=rfl);simp only[Act.put,kO,xF,zE];refine dN (i:=13) (some 46) (λc m _=>d.out c m) ?_;simp only[Act.put,kO,xF,zE];refine dN (i:=14) (some 47) (λc m _=>d.out c m) ?_;simp only[Act.put,kO,xF,zE];refine dN (i:=15) (some 48) (λc m _=>d.out c m) ?_;simp only[Act.put,kO,xF,zE];refine ry (i:=16) (k:=17) (some 49) (λc m _=>d.out c m) (.tail _ (.tail _ (.head _))) (Or.inl ⟨by rfl,λw hw=>by dsimp only at hw;go_simp;with_reducible rfl⟩) ?_ (hi:=rfl);simp only[Act.put,kO,xF,zE];refine gU (rs:=[7]) oA rfl (iE.cons rfl (λK r=>?_) iE.nil);go_simp;refine (cr.out wr.drew (fK (bM _ _))).mono ?_;rintro e w3 ⟨v,dv,rfl,ax,ai⟩;obtain⟨a3,c3,rfl,bz⟩:=ax.slice;have cL:=JJ ai (show wr.drew.cell? ⟨g,j*7+5,none⟩=_ from c5);have bk:=JJ ai (show wr.drew.cell? ⟨g,j*7+6,none⟩=_ from c6);obtain⟨cw,N,bb⟩:=we ax ai bz;clear ax ai bz;refine r.out _ _ (bL (.inl rfl) (bL (.inr cL) (bL (.inr bk) fP))) ?_;clear r K;refine gU (rs:=[12]) oA rfl (iE.cons rfl (λK r=>?_) iE.nil);go_simp;refine (ct.out w3 (kL (aJ (fK (bM _ _)) N.out))).mono ?_;rintro e w4 ⟨a4,R,V4,rfl,ca,br,az⟩;have cM:=JJ az bk;obtain⟨cC,Q,bc⟩:=we br az ca;clear br az ca;refine r.out _ _ (bL (.inl rfl) (bL (.inl rfl) (bL (.inr cM) fP))) ?_;clear r K;refine gU (rs:=[17]) oA rfl (iE.cons rfl (λK r=>?_) iE.nil);go_simp;refine (cu.out w4 (kL (aJ (aJ (fK (bM _ _)) N.out) Q.out))).mono ?_;rintro e w5 ⟨a5,Z,V5,rfl,cb,bt,cd⟩;obtain⟨cD,Y,bd⟩:=we bt cd cb;clear bt cd cb;refine r.out _ _ (bL (.inl rfl) (bL (.inl rfl) (bL (.inl rfl) fP))) ?_;clear r K;have an:Hid (w5.ownsRow W.heap.size 36 7 (.slice (some ⟨g,0,none⟩) q.length cp) q.length (flat us)):=by have h:=zp HO.out (aJ (aJ (aJ (fK (bM _ _)) N.out) Q.out) Y.out) (.inr oX);rw[cF.out]at h;exact h
      have ao:=jh (an.stored (j*7+4) (.slice a3 x.args.length c3)).1;have aq:=jh (ao.stored (j*7+5) (.slice a4 x.types.length R)).1;have dc:=jh (aq.stored (j*7+6) (.slice a5 x.code.length Z)).1;refine dN (i:=18) (some 51) (bL (.inl rfl) (bL (.inl rfl) (bL (.inl rfl) fP))) ?_;simp only[Act.put,kO,xF,zE];refine dN (i:=19) (some 52) (bL (.inl rfl) (bL (.inl rfl) (bL (.inl rfl) fP))) ?_;simp only[Act.put,kO,xF,zE];have dk:=an.out.frozenAt (j*7+4);obtain⟨o4,de⟩:=zi (k:=4) an f ov;refine gU (rs:=[20]) oA rfl (iE.cons rfl (λK r=>?_) iE.nil);go_simp;refine r _ _ (bL (.inl rfl) (bL (.inl rfl) (bL (.inl rfl) fP))) ?_;clear r K;refine dN (i:=21) (some 53) (bL (.inl rfl) (bL (.inl rfl) (bL (.inl rfl) fP))) ?_;simp only[Act.put,kO,xF,zE];refine dN (i:=22) (some 54) (bL (.inl rfl) (bL (.inl rfl) (bL (.inl rfl) fP))) ?_;simp only[Act.put,kO,xF,zE];have dn:=ao.out.frozenAt (j*7+5);obtain⟨o5,dg⟩:=zi (k:=5) ao f ov;refine gU (rs:=[23]) oA rfl (iE.cons rfl (λK r=>?_) iE.nil);go_simp;refine r _ _ (bL (.inl rfl) (bL (.inl rfl) (bL (.inl rfl) fP))) ?_;clear r K;refine dN (i:=24) (some 55) (bL (.inl rfl) (bL (.inl rfl) (bL (.inl rfl) fP))) ?_;simp only[Act.put,kO,xF,zE];refine dN (i:=25) (some 56) (bL (.inl rfl) (bL (.inl rfl) (bL (.inl rfl) fP))) ?_;simp only[Act.put,kO,xF,zE];have dp:=aq.out.frozenAt (j*7+6);obtain⟨o6,dj⟩:=zi (k:=6) aq f ov;refine gU (rs:=[26]) oA rfl (iE.cons rfl (λK r=>?_) iE.nil);go_simp;refine r _ _ (bL (.inl rfl) (bL (.inl rfl) (bL (.inl rfl) fP))) ?_;clear r K;refine uP oA ?_ _;have cA:Hid (Put W M P tb cap vs ts g j x (((w5.setCell ⟨g,j*7+4,none⟩ (.slice a3 x.args.length c3)).setCell ⟨g,j*7+5,none⟩ (.slice a4 x.types.length R)).setCell ⟨g,j*7+6,none⟩ (.slice a5 x.code.length Z))):=by have hd:=fK (bM wr none);have dr:=jz (HT.ren.lt g q HM) (aJ hd N).size;have s4:=Q.out.size;have cg:w5.grownBy (((w5.setCell ⟨g,j*7+4,none⟩ (.slice a3 x.args.length c3)).setCell ⟨g,j*7+5,none⟩ (.slice a4 x.types.length R)).setCell ⟨g,j*7+6,none⟩ (.slice a5 x.code.length Z)) (some g):=dY (dY (dY (bM _ _) _ _ _) _ _ _) _ _ _;have J:∀b,w3.heap.size<=b->b<w5.heap.size->∀o,(((w5.setCell ⟨g,j*7+4,none⟩ (.slice a3 x.args.length c3)).setCell ⟨g,j*7+5,none⟩ (.slice a4 x.types.length R)).setCell ⟨g,j*7+6,none⟩ (.slice a5 x.code.length Z)).cell? ⟨b,o,none⟩=w5.cell? ⟨b,o,none⟩:=λb E f o=>qn (cg.block b f (λe=>by cases e;omega));refine UK (HT.grow hd) HM HP cI aj cm cw N ⟨bb,bc,bd⟩ ((cC.same (λb o _ f=>ni Y b o trivial f)).same (λb o E f=>J b E f o)) ((cD.ae (λb _ E=>kh s4 E)).same (λb o E f=>J b E f o)) ⟨fF (kL (aJ Q Y)) cg,λdu da L hl=>?_⟩;have h:=zp L (aJ Q Y) (.inr oX);rw[hl]at h;exact (((h.stored _ _).1.stored _ _).1.stored _ _).1
      go_wp2_with fail;go_meet;exact cA
     case rest =>
      obtain⟨M',P',dd,ar,D,G,ad,R,bm,au⟩:=hcut;have ab:=au _ cv
      by_cases h0:x.args=[]
      .have ds:x.args.length=0:=by rw[h0];rfl
       have d2:¬(0:Int)<(x.args.length:Int):=od
       have HE:Hid (Tt W l X gk g q (some ⟨g,0,none⟩) (.slice (some ⟨tb,0,none⟩) ts.length cap) (.i ((j+1:Nat):Int)) wc):=⟨j+1,M',P',tb,cap,vs,ts,f,rfl,rfl,D,HF.mono G,.inr ⟨rfl,G _ _ HM,ad⟩,aj,by have h:=ak.out;omega,bj,λb ys e F=>(ab b ys e F).imp (λh=>h.resolve_right λh=>h.1 h0) id⟩;clear au ab D G ad bm;go_wp2_with fail;go_roundw
       case rel=>exact HE
       case measure=>simp[intOf];omega
      .rcases bm with h|⟨g',rfl,bo,bq,ch,cf⟩
       .exact absurd h h0
       have cT:=je7.2 h0;have d2:(0:Int)<(x.args.length:Int):=od
       have ba:vs.length=ts.length:=by have:=D.own.1;simpa using this
       have aE:vs.length<=8000000000:=by have h1:=len_tsz ts;have B:=ak.out;have h3:=HK.out;have h4:=HN.out;omega
       have cz:Hid (kD W.heap.size wc (.slice (some ⟨tb,0,none⟩) ts.length cap) vs):=by have h:=D.own;unfold kD;rw[ba];exact h
       have cn:Hid (W.heap.size<=wc.heap.size):=D.ren.gr.size;have cG:=jh ba;have cx:=jh aE;have HE:Hid (∀v' w',kD W.heap.size w' v' (vs++[.slice (some ⟨g',0,none⟩) x.args.length ar])->Gr wc (.slice (some ⟨tb,0,none⟩) ts.length cap) w' v'->Tt W l X gk g q (some ⟨g,0,none⟩) v' (.i ((j+1:Nat):Int)) w'):=λv' w' L hg=>by
        have cV:w'.ownsRow W.heap.size 28 1 v' (ts.length+1) (vs++[.slice (some ⟨g',0,none⟩) x.args.length ar]):=by unfold kD at L;rw[qS,cG.out]at L;exact L
        obtain⟨M2,cX,bl,rfl,T,bn,cN⟩:=D.push bo bq ch cV hg;have h:=ak.out;have cl:=eP x;exact⟨j+1,M2,P',cX,bl,_,_,f,rfl,ot,T,(HF.mono G).mono bn,.inr ⟨rfl,bn _ _ (G _ _ HM),ad⟩,by simp only[qc2,qb7,jb5,qa0,yq,not_or];exact⟨aj,λe=>cf e.symm⟩,by rw[Cw];omega,λp U=>by
         rcases qa0.1 U with U|U
         .exact bj p U
         .simp at U;subst U;exact λy hy=>by have h1:=IK hy;have B:=cH.out;simp only at *;omega,λb ys e F=>(ab b ys (cN b ys e F) F).imp (λh=>by
         rcases h with (⟨zs,h,I⟩|h)|⟨h,e2⟩
         .exact .inl ⟨zs,by simp[h],I⟩
         .exact .inr h
         .simp at e2;subst e2;exact .inl ⟨x.args,ot,h⟩) id⟩
       clear au ab D G ad bo bq ch cf cT ba aE;go_wp2_with (at_builtin;refine Yo W.heap.size vs (some ⟨g',0,none⟩) x.args.length ar wc _ rfl _ _ rfl rfl rfl rfl cz cn cx ?_;intro v' w' L hg;have HQ:=jh (HE v' w' L hg);clear L hg);go_roundw
       case rel=>exact HQ
       case measure=>simp[intOf];omega
    .have cQ:j=q.length:=by omega
     subst cQ;have d1:¬(q.length:Int)<(q.length:Int):=od
     have HE:Hid (WM W l X (tsz ts) (.slice (some ⟨tb,0,none⟩) ts.length cap) wr/\tsz ts<gk):=by
      have hk:=HK.out;exact⟨⟨M,P,tb,cap,vs,ts,rfl,S,hF,qv _,od,A,λb ys e F=>by
       rcases z b ys e F with (h|⟨rfl,I⟩)|h
       .exact .inl h
       .rcases hE with h|⟨_,B,h3⟩
        .exact absurd h I
        .rw[B]at e;cases e;exact .inr od
       .exact .inr h⟩,od⟩
     clear S hF hE H hz A z;go_wp2_with fail
     go_roundg (tsz ts)
     case measure=>exact HE.2
     case rel=>exact HE.1
