import Derived.Test.YtgfdimkbfnpepaaGreatKpZai
namespace Go.Proofs.YtgfdimkbfnpepaaGreat
set_option linter.all false
open Go.Proofs.Tryz
set_option maxRecDepth 100000
set_option maxHeartbeats 4000000
mutual
def xJ(d:Nat):∀(T:Ty),j5 (d+1) T=true->j5 d T=true
 | .nd t a,h=>by simp only[j5,qu,ki]at h|-;exact⟨⟨od,h.1.2⟩,vX (d+1) a h.2⟩
def vX(d:Nat):∀(l:List Ty),ig (d+1) l=true->ig d l=true
 | [],_=>rfl
 | T::l,h=>by simp only[ig,qu]at h|-;exact⟨xJ d T h.1,vX d l h.2⟩
end
def wF{t:Int}{args:List Ty}(h:zt (.nd t args)=true):args.all zt=true:=by
 rw[zr];intro T a;obtain⟨b,d,c⟩:=dE h;simp only[j5,qu,jT,zr]at b;have e:=xJ 1 T (b.2 T a);have f:keyedF T=true:=by simp only[keyedF,qu,uu,zr]at c;exact c.2 T a
 have g:T.size<=300:=by have:=jS a;simp only[Ty.size]at d;omega
 simp[zt,e,f,g]
def gX{T:Ty}(h:zt T=true):T.args.all zt=true:=by obtain⟨t,args⟩:=T;exact wF h
def yV{args:List Ty}(h:zt (.nd 13 args)=true):zt (.nd 11 args)=true:=by
 obtain⟨a,b,c⟩:=dE h;simp only[j5,qu,ki]at a;simp only[keyedF,qu]at c;simp only[Ty.size]at b;simp only[zt,j5,keyedF,Ty.size,qu,ki];refine⟨⟨⟨⟨a.1.1,ov,?_⟩,a.2⟩,by simpa using b⟩,?_,c.2⟩
 .have:=a.1.2.2;simpa[bT]using this
 .simp[uZ]
def um{a b:List Ty}(c:a.all zt=true)(d:b.all zt=true):(a++b).all zt=true:=by rw[qc6,c,d];rfl
def iI{s:List Ty}(h:s.all zt=true)(k:Nat):(s.drop k).all zt=true:=zr.2 λx a=>zr.1 h x (ja3 a)
def Dz{s:List Ty}(h:s.all zt=true)(k:Nat):(s.take k).all zt=true:=zr.2 λx a=>zr.1 h x (qf2 a)
def Bl{T:Ty}(h:zt T=true)(a:T.t=13):zt (.nd 11 T.args)=true:=by obtain⟨t,args⟩:=T;simp only[Ty.t]at a;subst a;exact yV h
def ZA (p:Int):Nat:=((bR p).filter (λf=>decide (f=116\/f=117))).length
def Cc{st:Tr->List Ty->iF} : ∀(l:List Tr) (f:Bool) (s:List Ty) {g:Bool}{ts:List Ty},s.length<=1001->s.all zt=true->iG st l f s =.ok g ts->ts.length<=1001/\ts.all zt=true
 | [],f,s,g,ts,b,c,h=>by simp only[iG,iF.ok.injEq]at h;obtain⟨rfl,rfl⟩:=h;exact⟨b,c⟩
 | t::l,f,s,g,ts,b,c,h=>by
  simp only[iG]at h
  by_cases d:f=true
  .simp[d]at h
  .simp only[d]at h
   cases a:keptF (st t s)with
   | no e=>simp[a]at h
   | ok i k =>
    simp only[a]at h;obtain⟨e,m,j⟩:=nP a;exact Cc l i k od j (by simpa using h)
def og{l:List Tr}{t:Tr}(h:t∈l):t.size<=sizes l:=by
 induction l with
 | nil=>cases h
 | cons x l a =>
  simp only[sizes];rcases xb.1 h with rfl|h
  .omega
  .have:=a h;omega
def Zy (p:Int):Nat:=((bR p).filter (λf=>decide (f=99\/f=100))).length
def J9{t:Tr}(h:fu t=true):zt (kreadT t)=true:=by unfold fu at h;rw[qu]at h;exact h.2
def Iy{i j:Ins}{f:UInt8}{t:Tr}(h:iy i f t=some j) :
 j.p=i.p/\j.types.length=i.types.length+(if f=116\/f=117 then 1 else 0)/\j.rows.length=i.rows.length+(if f=99\/f=100 then 1 else 0)/\(i.types.all zt=true->j.types.all zt=true) /\
 (∀P:List Tr->Prop,(∀l∈i.rows,P l)->P t.args0->∀l∈j.rows,P l)/\(j.data=i.data\/j.data=t)/\(0<=i.n->0<=j.n)/\(i.n<=40->j.n<=40):=by
 unfold iy at h
 by_cases e:f=110
 .subst e;rw[if_pos rfl]at h;split at h
  .rename_i c;cases h;exact⟨rfl,ot,ot,id,λP h _=>h,.inl rfl,λ_=>c.2.1,λ_=>c.2.2⟩
  .cases h
 .rw[if_neg e]at h
  by_cases a:f=116\/f=117
  .rw[if_pos a]at h;have b:¬(f=99\/f=100):=by rcases a with rfl|rfl<;>decide
   split at h
   .rename_i c;cases h;refine⟨rfl,by simp[a],by simp[b],λk=>um k (by simp[J9 c]),λP h _=>h,.inl rfl,id,id⟩
   .cases h
  .rw[if_neg a]at h
   by_cases b:f=99\/f=100
   .rw[if_pos b]at h;split at h
    .cases h;refine⟨rfl,by simp[a],by simp[b],id,λP h g l d=>?_,.inl rfl,id,id⟩;simp only[qa0,yq]at d;rcases d with d|rfl
     .exact h l d
     .exact g
    .cases h
   .rw[if_neg b]at h;cases h;exact⟨rfl,by simp[a],by simp[b],id,λP h _=>h,.inr rfl,id,id⟩
def takesF_facts:∀(a:List UInt8) (l:List Tr) (i j:Ins),a.length=l.length->takesF i a l=some j ->
 j.p=i.p/\j.types.length=i.types.length+(a.filter (λf=>decide (f=116\/f=117))).length/\j.rows.length=i.rows.length+(a.filter (λf=>decide (f=99\/f=100))).length/\(i.types.all zt=true->j.types.all zt=true) /\
 (∀P:List Tr->Prop,(∀r∈i.rows,P r)->(∀t∈l,P t.args0)->∀r∈j.rows,P r)/\(j.data=i.data\/j.data∈l)/\(0<=i.n->0<=j.n)/\(i.n<=40->j.n<=40)
 | [],l,i,j,_,h=>by simp only[takesF,qk]at h;subst h;exact⟨rfl,ot,ot,id,λP h _=>h,.inl rfl,id,id⟩
 | f::a,[],i,j,e,h=>by simp at e
 | f::a,t::l,i,j,e,h=>by
  simp only[takesF]at h
  cases d:iy i f t with
  | none=>simp[d]at h
  | some k =>
   simp only[d]at h;obtain⟨o,q,s,u,v,c,w,x⟩:=Iy d;obtain⟨y,z,A,B,C,b,D,E⟩:=takesF_facts a l k j (by simpa using e) h;refine⟨y.trans o,?_,?_,λh=>B (u h),λP F m=>C P (v P F (m t ot)) (λG g=>m G (by simp[g])),?_,λh=>D (w h),λh=>E (x h)⟩
   .rw[z,q,List.filter_cons];split<;>simp_all<;>omega
   .rw[A,s,List.filter_cons];split<;>simp_all<;>omega
   .rcases b with b|b
    .rcases c with c|c
     .exact .inl (b.trans c)
     .exact .inr (by rw[b,c];simp)
    .exact .inr (by simp[b])
structure VO (N:Nat) (i:Ins):Prop where
 p40:40<=i.p
 nt:i.types.length=ZA i.p
 nr:i.rows.length=Zy i.p
 gt:i.types.all zt=true
 rows:∀r∈i.rows,∀x∈r,x.size<=N
 data:i.data.size<=N+1
 n0:0<=i.n
 n1:i.n<=40
 Zx:∀r∈i.rows,okNs r
 Zg:okN i.data
def BJ{t:Tr}(h:okN t):okNs t.args0:=by cases t;exact h.2
def Rm{t:Tr}{i:Ins}{N:Nat}(hk:okN t)(hz:t.size<=N+1)(h:iY t=some i):VO N i:=by
 unfold iY at h;split at h
 .rename_i g;obtain⟨b,j,k,l,f,a,m,n⟩:=takesF_facts _ _ _ _ g.2.2.symm h;have o:t.size=sizes t.args0+1:=by cases t;rfl
  refine⟨by rw[b];exact g.2.1,by rw[j,b];simp[ZA],by rw[k,b];simp[Zy],l rfl,λr c x e=>?_,?_,m ot,n ot,λr c=>?_,?_⟩
  .refine f (λr=>∀x∈r,x.size<=N) ot (λu d x e=>?_) r c x e;have q:=og d;have s:=og e;have p:u.size=sizes u.args0+1:=by cases u;rfl
   omega
  .rcases a with a|a
   .rw[a];show tr0.size<=_;simp[tr0,Tr.size,sizes]
   .have:=og a;omega
  .exact f okNs ot (λu d=>BJ (okNs_at.1 (BJ hk) u d)) r c
  .rcases a with a|a
   .rw[a];show okN tr0;simp[tr0,okN,okNs,bD,maxLen,ByteArray.size]
   .exact okNs_at.1 (BJ hk) _ a
 .cases h
def U7{t:Tr}{i:Ins}(h:iY t=some i){l:List Tr}(c:l∈i.rows):l.length<=sizes t.args0:=by
 unfold iY at h;split at h
 .rename_i b;obtain⟨e,f,g,j,a,_⟩:=takesF_facts _ _ _ _ b.2.2.symm h;refine a (λr=>r.length<=sizes t.args0) ot (λu d=>?_) l c;have m:=og d;have n:=cB u.args0;have k:u.size=sizes u.args0+1:=by cases u;rfl
  omega
 .cases h
open Go.ChangeShapes Go.WideShapes Go.ChangeAt Go.RowKit Pe
def Wj{w w':World}{a:Addr}{v:Value}(b:w.grownBy w' none)(h:w.cell? a=some v):w'.cell? a=some v:=(qn (b.block _ (kd w _ h) ot)).trans h
def dw.Vf{ok:Nat->Prop}{w:World}{ts:List Ty}{a:Option Addr}{V:Nat->Value}(h:dw ok w ts a V)(c:Nat):∃vs:List Value,vs.length=ts.length/\gZ w (.slice a ts.length c) ts.length (bX vs)/\(bX vs).length=ts.length*2/\(∀u∈bX vs,u.oneCell'=true)/\∀(i:Nat) (t:Ty) (u:Value),ts[i]?=some t->vs[i]?=some u->aH ok w t u:=by
 let vs:=(List.range ts.length).map V
 have f:vs.length=ts.length:=by simp[vs]
 have n:∀i,i<ts.length->vs[i]?=some (V i):=λi g=>by simp[vs,g]
 have C:∀i,i<ts.length->∃t m l k,V i=Go.Proofs.YtgfdimkbfnpepaaGreat.bY t m l k:=λi g=>by obtain⟨_,_,_,_,t,m,l,k,D,_⟩:=h.2.1 i g;exact⟨t,m,l,k,D⟩
 have E:∀u∈vs,∃t m l k,u=Go.Proofs.YtgfdimkbfnpepaaGreat.bY t m l k:=λu d=>by simp only[vs,qa7,List.mem_range]at d;obtain⟨i,g,rfl⟩:=d;exact C i g
 have p:∀u∈vs,(tyCells u).length=2:=λu d=>by obtain⟨t,m,l,k,rfl⟩:=E u d;rfl
 have v:∀(s:List Value),(∀u∈s,(tyCells u).length=2)->(bX s).length=s.length*2:=λs=>by
  induction s with
  | nil=>intro _;rfl
  | cons x s J =>
   intro z;have K:=z x ot;have A:=J (λu d=>z u (by simp[d]));simp only[bX,qd5,qS,jn]at A|-;omega
 refine⟨vs,f,?_,by rw[v vs p,f],λu d=>?_,λi t u y d=>?_⟩
 .cases a with
  | none =>
   have B:ts.length=0:=by
    rcases Nat.eq_zero_or_pos ts.length with e|e
    .exact e
    .obtain⟨b,o,A⟩:=h.base e;cases A
   exact .inl ⟨c,by rw[B],B,by rw[ju (f.trans B)];rfl⟩
  | some F =>
   refine .inr ⟨F,c,rfl,λj u d=>?_⟩;have I:j<(bX vs).length:=(jj.1 d).1;rw[v vs p,f]at I;have g:j / 2<ts.length:=od
   obtain⟨b,o,e,_,t,m,l,k,D,G,H⟩:=h.2.1 (j / 2) g;have r:=flatT_get vs p (j / 2) (j % 2) (V (j / 2)) (n _ g) od;rw[show j / 2*2+j % 2=j from by omega,d,D]at r;simp only[qk]at e;subst e;rcases (show j % 2=0\/j % 2=1 by omega)with q|q
   .rw[q]at r;simp[tyCells,Go.Proofs.YtgfdimkbfnpepaaGreat.bY]at r;rw[r,<-G];rw[addr_add,show o+j=o+j / 2*2 from by omega]
   .rw[q]at r;simp[tyCells,Go.Proofs.YtgfdimkbfnpepaaGreat.bY]at r;rw[r,<-H];rw[addr_add,show o+j=o+j / 2*2+1 from by omega]
 .simp only[bX,jh2]at d;obtain⟨x,z,d⟩:=d;obtain⟨t,m,l,k,rfl⟩:=E x z;simp[tyCells,Go.Proofs.YtgfdimkbfnpepaaGreat.bY]at d;rcases d with rfl|rfl<;>rfl
 .have g:i<ts.length:=(jj.1 y).1;rw[n i g]at d;rw[qt g]at y;simp only[qk]at y d;subst y;subst d;exact h.2.2 i g
structure vN (ok:Nat->Prop) (W w:World) (v:Value) (ts:List Ty) (vs:List Value):Prop where
 own:wS W.heap.size w v vs
 len:vs.length=ts.length
 lies:∀(i:Nat) (t:Ty) (u:Value),ts[i]?=some t->vs[i]?=some u->aH ok W t u
def vN.more{ok:Nat->Prop}{W w w':World}{v v':Value}{ts us:List Ty}{vs ns:List Value}(h:vN ok W w v ts vs)(e:wS W.heap.size w' v' (vs++ns))(d:ns.length=us.length)(f:∀(i:Nat) (t:Ty) (u:Value),us[i]?=some t->ns[i]?=some u->aH ok W t u):vN ok W w' v' (ts++us) (vs++ns):=by
 refine⟨e,by simp[h.len,d],λi t u a b=>?_⟩
 by_cases c:i<ts.length
 .rw[jt c]at a;rw[jt (by rw[h.len];exact c)]at b;exact h.lies i t u a b
 .rw[js od]at a;rw[js (by rw[h.len];omega),h.len]at b;exact f _ t u a b
def TT{ok:Nat->Prop}{W:World}{x y:List Ty}{U X:Option Addr}{V Y:Nat}{VX VY:Nat->Value}{b q qc:Nat}(L:W.cell? ⟨b,q,none⟩=some (.slice U x.length V))(M:W.cell? ⟨b,q+1,none⟩=some (.slice X y.length Y))(w:dw ok W x U VX)(z:dw ok W y X VY)(hn:x.length+y.length<=20000000) :
 Calls prog 105 #[.slice (some ⟨b,q,none⟩) 2 qc] W λe w'=>∃v vs,e =.returned v/\vN ok W w' v (x++y) vs/\W.grownBy w' none:=by
 obtain⟨I,J,E,F,o⟩:=wg w z L M (Nw (x.length+y.length) hn);have hi:(x.length:Int)+(y.length:Int)<=20000000:=od
 clear w z;go_enter func105,ntmps105;go_wp2_with fail;go_loopw [3,11] (λT d wr=>wr=W/\((d =.i 0/\T =.i 0)\/(d =.i 1/\T =.i x.length)\/(d =.i 2/\T =.i ((x.length+y.length:Nat):Int)))) (λ_ d _=>2 - (intOf d).toNat)
 case atStart=>exact⟨rfl,.inl ⟨rfl,rfl⟩⟩
 case round =>
  obtain⟨P,N⟩:=hrel;replace P:=P.symm;subst P;rcases N with⟨rfl,rfl⟩|⟨rfl,rfl⟩|⟨rfl,rfl⟩
  .go_wp2_with fail;go_roundw
   case rel=>exact⟨by trivial,.inr (.inl ⟨rfl,OF⟩)⟩
   case measure=>simp[intOf]
  .go_wp2_with fail;go_roundw
   case rel=>exact⟨by trivial,.inr (.inr ⟨rfl,OF⟩)⟩
   case measure=>simp[intOf]
  .go_wp2_with fail;refine (o _).mono ?_;rintro e w1 ⟨v0,rfl,c,r⟩;have H:Hid (vN ok W w1 v0 [] []):=⟨c,rfl,λi t u h=>by simp at h⟩;have G:=jh r;clear c r o L M;go_wp2_with fail;go_loopw [6,27] (λS d D=>W.grownBy D none/\((d =.i 0/\∃vs,vN ok W D S [] vs)\/(d =.i 1/\∃vs,vN ok W D S x vs)\/(d =.i 2/\∃vs,vN ok W D S (x++y) vs))) (λ_ d _=>2 - (intOf d).toNat)
   case atStart=>exact⟨G,.inl ⟨rfl,[],H⟩⟩
   case round =>
    obtain⟨g,N⟩:=hrel;have L:=Wj g E;have M:=Wj g F;have a:=jh g;clear g;rcases N with⟨rfl,vs,f⟩|⟨rfl,vs,f⟩|⟨rfl,vs,f⟩
    .obtain⟨n,n1,A,Q,R,B⟩:=I.out.Vf V;have k:=jh f;have K:=jh (A.grow a);have m:=jh B;have O:vs.length=0:=f.len;clear f A B;go_wp2_with (at_builtin;refine ed rfl _ _ 27 rfl W.heap.size 54 underlying27 rO rfl ov _ vs.length (bX vs) rfl k.own _ x.length (bX n) rfl Q K R oT od a.size ?_;intro C w' s p _;have j:=jh (dX a k.own (qv _) p.1);have l:=jh (k.more (v':=C) (w':=w') (ns:=n) (us:=x) (by unfold wS;rw[dx,qS,n1];exact s) n1 m);clear s p);go_roundw
     case rel=>exact⟨j,.inr (.inl ⟨rfl,_,l⟩)⟩
     case measure=>simp[intOf]
    .obtain⟨n,n1,A,Q,R,B⟩:=J.out.Vf Y;have k:=jh f;have K:=jh (A.grow a);have m:=jh B;have O:=f.len;clear f A B;go_wp2_with (at_builtin;refine ed rfl _ _ 27 rfl W.heap.size 54 underlying27 rO rfl ov _ vs.length (bX vs) rfl k.own _ y.length (bX n) rfl Q K R oT od a.size ?_;intro C w' s p _;have j:=jh (dX a k.own (qv _) p.1);have l:=jh (k.more (v':=C) (w':=w') (ns:=n) (us:=y) (by unfold wS;rw[dx,qS,n1];exact s) n1 m);clear s p);go_roundw
     case rel=>exact⟨j,.inr (.inr ⟨rfl,_,l⟩)⟩
     case measure=>simp[intOf]
    .have Z:=jh f;clear f;go_wp2_with fail;go_ret;exact⟨_,_,rfl,Z,a⟩
def vN.rep{ok:Nat->Prop}{W w:World}{v:Value}{ts:List Ty}{vs:List Value}(h:vN ok W w v ts vs)(F:W.grownBy w none)(U:ts.length<=maxLen):fI (λb=>ok b\/W.heap.size<=b) w (.s 2 (tysD ts)) v:=by
 have O:=h.len;have N:zH ok W (λb=>ok b\/W.heap.size<=b) w:=⟨F.size,λb I n=>⟨.inl n,λo=>qn (F.block b I ot)⟩⟩;have m:(tysD ts).length=ts.length:=by simp[tysD_map]
 have C:∀(i:Nat) (k:i<ts.length),∃(a:Option Addr) (c:Nat),vs[i]?=some (bY ts[i].t a ts[i].args.length c)/\fI (λb=>ok b\/W.heap.size<=b) w (.s 2 (tysD ts[i].args)) (.slice a ts[i].args.length c):=λi k=>by
  have G:i<vs.length:=od
  obtain⟨_,a,c,e,q⟩:=qI (h.lies i _ _ (qt k) (qt G));exact⟨a,c,by rw[qt G,e],q.keep N⟩
 have z:∀u∈vs,(tyCells u).length=2:=λu E=>by obtain⟨i,k,rfl⟩:=ye E;obtain⟨a,c,e,_⟩:=C i od;rw[qt k]at e;simp only[qk]at e;rw[e];rfl
 have n:=h.own;unfold wS at n;rcases n.2 with⟨rfl,S⟩|⟨g,y,H,rfl,A,L,P,J,K,B⟩
 .have hz:ts=[]:=ju od;subst hz;exact .s (λ_ _=>undef) (by simp[tysD]) (by simp[tysD]) (by simp[tysD]) (by simp[tysD]) (by simp[tysD])
 .have d:∀(i:Nat) (r:List D),(tysD ts)[i]?=some r->∃h:i<ts.length,r=tyD ts[i]:=λi r e=>by
   rw[tysD_map,qb6,km]at e;obtain⟨T,l,rfl⟩:=e;obtain⟨h,rfl⟩:=jj.1 l;exact⟨h,rfl⟩
  have p:fI (λb=>ok b\/W.heap.size<=b) w (.s 2 (tysD ts)) (.slice (some ⟨g,0,none⟩) (tysD ts).length y):=by
   refine .s (λi j=>((tyCells ((vs[i]?).getD undef))[j]?).getD undef) od od (λi r e=>by obtain⟨h,rfl⟩:=d i r e;exact AA _) (λi r j x l f=>?_) (λi r j x l f=>?_)
   .obtain⟨k,rfl⟩:=d i r l;obtain⟨a,c,e,_⟩:=C i k;have M:j<2:=by have:=(jj.1 f).1;rwa [AA]at this
    refine⟨g,0,rfl,.inr A,?_⟩;have Q:(tyCells (bY ts[i].t a ts[i].args.length c))[j]?=some (((tyCells ((vs[i]?).getD undef))[j]?).getD undef):=by rw[e];rcases (show j=0\/j=1 by omega)with rfl|rfl<;>rfl
    have:=yy n (g:=g) rfl (i*2+j) _ (by rw[flatT_get vs z i j _ e M];exact Q);rwa [addr_add]at this
   .obtain⟨k,rfl⟩:=d i r l;obtain⟨a,c,e,q⟩:=C i k;rw[e];generalize ts[i]=T at f q;obtain⟨V,R⟩:=T;rcases j with _|_|j
    .simp only[tyD,kl,qk]at f;subst f;exact .v _
    .simp only[tyD,yd,kl,qk]at f;subst f;exact q
    .simp[tyD]at f
  rw[m,<-O]at p;exact p
open Go.ChangeShapes Go.WideShapes Go.ChangeAt Go.RowKit
def K6 (w:World) (r:iF) (a:Option Addr) (l c:Nat) (f:Bool) (er:Int):Prop :=
 (r =.no er/\er≠0/\a=none/\l=0/\c=0/\f=false)\/(∃ts,r =.ok f ts/\er=0/\jo w ts (.slice a l c))
def WL.is{r:iF}{W:World}{e:Ending}{w':World}(h:WL r W e w'):∃a l c f b,e =.returned (.tuple #[.agg #[.slice a l c,.bool f],.i b])/\W.grownBy w' none/\K6 w' r a l c f b:=by
 rcases h.2 with⟨b,d,g,rfl⟩|⟨f,k,a,l,c,d,rfl,j⟩
 .exact⟨none,0,0,false,b,rfl,h.1,.inl ⟨d,g,rfl,rfl,rfl,rfl⟩⟩
 .exact⟨a,l,c,f,0,rfl,h.1,.inr ⟨k,d,rfl,j⟩⟩
def K6.grow{w w':World}{r:iF}{a:Option Addr}{l c:Nat}{f:Bool}{b:Int}(h:K6 w r a l c f b)(i:w.grownBy w' none):K6 w' r a l c f b:=by
 rcases h with h|⟨j,d,e,g⟩
 .exact .inl h
 .exact .inr ⟨j,d,e,g.grow i⟩
def ent_mi1:∀args w,(callFunc 139 args).run prog w =.ok (.enter 139 args) w:=λargs w=>OK
def zQ(l:List Tr):mintsTs l=l.any mintsT:=by
 induction l with
 | nil=>simp[mintsTs]
 | cons t l a=>simp[mintsTs,a]
def JB{W:World}{l:List Tr}{na:Option Addr}{nc:Nat}{VN:Nat->Value}(hN:cK (λ_=>True) W l na VN)
 (hK:∀(j:Nat) (h:j<l.length) (v:World),W.grownBy v none->Calls prog 139 #[VN j] v λe w'=>e =.returned (.bool (mintsT l[j]))/\v.grownBy w' none) :
 Calls prog 185 #[.slice na l.length nc,.func (.func 139) #[] #[]] W λe w'=>∃r:Int,e =.returned (.i r)/\((0<=r/\l.any mintsT=true)\/(r = -1/\l.any mintsT=false))/\W.grownBy w' none:=by
 have G:=hN.1;unfold maxLen at G;have D:=jh hN;have t:=jh hK;have K:=ent_mi1;clear hN hK;go_enter func185,ntmps185;go_wp2_with fail;go_loopw [8] (λz wr=>∃j:Nat,j<=l.length/\z =.i j/\(∀i (h:i<l.length),i<j->mintsT l[i]=false)/\W.grownBy wr none) (λz _=>l.length - (intOf z).toNat)
 case atStart=>exact⟨0,kB _,rfl,λi h w=>od,bM _ _⟩
 case round =>
  obtain⟨j,Q,rfl,f,c⟩:=hrel;have d:=jh f;have g:=jh c;clear f
  by_cases k:j<l.length
  .obtain⟨b,o,rfl,_,R,T,U,V,I,S,J,C,L,M,N,O,P⟩:=(D.out.2.1 j k).same (w':=wr) (ni c);have q:=t.out j k wr c;rw[C]at q;unfold af at q;have p:=jh q;have E:(j:Int)<(l.length:Int):=by omega
   clear c C q
   cases m:mintsT l[j]with
   | false =>
    rw[m]at p;have u:=jh m;clear m;go_wp2_with fail;refine p.mono ?_;rintro e H ⟨rfl,n⟩;have s:=jh (aJ g n);clear n;go_wp2_with fail;go_roundw
    case rel =>
     refine⟨j+1,od,OF,λi h w=>?_,s⟩
     by_cases e:i=j
     .subst e;exact u
     .exact d i h od
    case measure=>simp[intOf];omega
   | true =>
    rw[m]at p;have u:=jh m;clear m;go_wp2_with fail;refine p.mono ?_;rintro e H ⟨rfl,n⟩;have s:=jh (aJ g n);clear n;go_wp2_with fail;go_ret;exact⟨_,rfl,.inl ⟨od,qh3.2 ⟨_,zj k,u⟩⟩,s⟩
  .have a:l.any mintsT=false:=by
    cases h:l.any mintsT with
    | false=>rfl
    | true =>
     obtain⟨x,y,B⟩:=qh3.1 h;obtain⟨i,w,rfl⟩:=ye y;rw[d.out i w od]at B;cases B
   have A:=jh a;have F:¬(j:Int)<(l.length:Int):=od
   clear a c;go_wp2_with fail;go_ret;refine⟨_,rfl,.inr ⟨rfl,?_⟩,g⟩
   first|exact A|exact (λx y=>by have h:=A.out;rw[List.any_eq_false]at h;simpa using h x y)
def vU{W:World}{l:List Tr}{na:Option Addr}{nc:Nat}{VN:Nat->Value}(hN:cK (λ_=>True) W l na VN)
 (hK:∀(j:Nat) (h:j<l.length) (a:World),W.grownBy a none->Calls prog 139 #[VN j] a λe w'=>e =.returned (.bool (mintsT l[j]))/\a.grownBy w' none) :
 Calls prog 138 #[.slice na l.length nc,.func (.func 139) #[] #[]] W λe w'=>e =.returned (.bool (l.any mintsT))/\W.grownBy w' none:=by
 have H:=jh (JB (nc:=nc) hN hK);clear hN hK;generalize l.any mintsT=q at *;go_enter func138,ntmps138;go_wp2_with fail;refine H.mono ?_;rintro e i ⟨r,rfl,c,b⟩;have d:=jh b;have f:=jh c;clear b c;go_wp2_with fail;go_ret;refine Lf.kZ ?_ d;rcases f with⟨g,rfl⟩|⟨rfl,rfl⟩
 .simp[g]
 .rfl
def JR{W:World}{k n p:Int}{f:ByteArray}{a:Option Addr}{l c:Nat}{b:Bool}(hk:∀o,W.grownBy o none->Calls prog 90 #[.slice a l c] o λe w'=>e =.returned (.bool b)/\o.grownBy w' none) :
 Calls prog 139 #[af k n p f a l c] W λe w'=>e =.returned (.bool (decide (k=2/\p=84)||b))/\W.grownBy w' none:=by
 have d:=jh (aK (w:=W) (.cells #[.i k,.i n,.i p,.string f,.slice a l c] 26));obtain⟨t,u,v,x,y⟩:=bE (qT W (.cells #[.i k,.i n,.i p,.string f,.slice a l c] 26));have r:=jh (hk _ d);clear hk;unfold af
 by_cases j:k=2
 .by_cases q:p=84
  .subst j;subst q;go_enter func139,ntmps139;go_wp2_with fail;go_ret;exact⟨rfl,d⟩
  .have A:(p==84)=false:=by simpa using q
   have g:(decide (k=2/\p=84)||b)=b:=by simp[q]
   rw[g];subst j;clear g;go_enter func139,ntmps139;go_wp2_with fail;refine r.mono ?_;rintro e s ⟨rfl,h⟩;have m:=jh (aJ d h);clear h;go_wp2_with fail;go_ret;exact⟨rfl,m⟩
 .have z:(k==2)=false:=by simpa using j
  have g:(decide (k=2/\p=84)||b)=b:=by simp[j]
  rw[g];clear g;go_enter func139,ntmps139;go_wp2_with fail;refine r.mono ?_;rintro e s ⟨rfl,h⟩;have m:=jh (aJ d h);clear h;go_wp2_with fail;go_ret;exact⟨rfl,m⟩
def G8{W:World}{a:Option Addr}{l c:Nat}{b:Bool}(d:Calls prog 138 #[.slice a l c,.func (.func 139) #[] #[]] W λe w'=>e =.returned (.bool b)/\W.grownBy w' none) :
 Calls prog 90 #[.slice a l c] W λe w'=>e =.returned (.bool b)/\W.grownBy w' none:=by
 have H:=jh d;clear d;go_enter func90,ntmps90;go_wp2_with fail;refine H.mono ?_;rintro e h ⟨rfl,f⟩;have g:=jh f;clear f;go_wp2_with fail;go_ret;exact⟨rfl,g⟩
def mints_any:∀(N:Nat) {W:World}{l:List Tr}{na:Option Addr}{nc:Nat}{VN:Nat->Value},cK (λ_=>True) W l na VN->sizes l<=N->Calls prog 90 #[.slice na l.length nc] W λe w'=>e =.returned (.bool (mintsTs l))/\W.grownBy w' none:=by
 intro N
 induction N with
 | zero =>
  intro W l na nc VN hN hz;rw[zQ];refine G8 (vU hN (λj h i g=>?_));have:=cB l;omega
 | succ N u =>
  intro W l na nc VN hN hz;rw[zQ];refine G8 (vU hN (λj h i g=>?_));have b:=(hN.2.2 j h).same (ni g);have f:(l[j]).size<=sizes l:=by have x:=gH l j h;have y:=jF l (j+1);omega
  generalize l[j]=t at *;generalize VN j=v at *
  cases b with
  | @mk k n p s args a c _ V o z B A C m r =>
   have q:mintsT (.nd k n p s args)=(decide (k=2/\p=84)||mintsTs args):=by rw[mintsT]
   rw[q];refine JR (λw d=>u (VN:=V) ?_ ?_)
   .exact cK.same ⟨o,m,r⟩ (ni d)
   .rw[Tr.size]at f;omega
def TB{W:World}{T:Ty}{t:Int}{a:Option Addr}{l c:Nat}(f:aH (λ_=>True) W T (bY t a l c)) :
 Calls prog 44 #[bY t a l c] W λe w'=>e =.returned (.bool (!zt T))/\W.grownBy w' none:=by
 have b:=jh (aK (w:=W) (.cells #[.i t,.slice a l c] 54));have d:=qT W (.cells #[.i t,.slice a l c] 54);have m:=xq d;have n:=wy d;have H:=jh (nT (f.same (ni b)).low);unfold bY at H|-;clear f d;generalize zt T=g at *;go_enter func44,ntmps44;go_wp2_with fail;refine H.mono ?_;rintro e k ⟨rfl,h⟩;have j:=jh (aJ b h);clear h;go_wp2_with fail;go_ret;exact⟨rfl,j⟩
def ent_ag1:∀args w,(callFunc 44 args).run prog w =.ok (.enter 44 args) w:=λargs w=>OK
def JC{W:World}{s:List Ty}{a:Option Addr}{l c:Nat}(B:jo W s (.slice a l c)) :
 Calls prog 64 #[.slice a l c,.func (.func 44) #[] #[]] W λe w'=>∃r:Int,e =.returned (.i r)/\((0<=r/\s.all zt=false)\/(r = -1/\s.all zt=true))/\W.grownBy w' none:=by
 obtain⟨C,L,K⟩:=B.len;subst C;unfold maxLen at K;have G:=jh B;have Q:=ent_ag1;clear B;go_enter func64,ntmps64;go_wp2_with fail;go_loopw [8] (λD wr=>∃j:Nat,j<=s.length/\D =.i j/\(∀i (h:i<s.length),i<j->zt s[i]=true)/\W.grownBy wr none) (λD _=>s.length - (intOf D).toNat)
 case atStart=>exact⟨0,kB _,rfl,λi h A=>od,bM _ _⟩
 case round =>
  obtain⟨j,R,rfl,k,f⟩:=hrel;have g:=jh k;have m:=jh f;clear k
  by_cases n:j<s.length
  .obtain⟨b,o,t,P,T,S,rfl,O,F,z⟩:=(G.out.grow f).at j n;have v:bB s j=s[j]:=by unfold bB;rw[qt n];rfl
   rw[v]at z;rw[show 2*j=j*2 from ja5 _ _]at O F;rw[<-qe0]at F;have q:=jh (TB z);unfold bY at q;have I:(j:Int)<(s.length:Int):=od
   clear z f v
   cases p:zt s[j]with
   | true =>
    rw[p]at q;have y:=jh p;clear p;go_wp2_with fail;refine q.mono ?_;rintro e N ⟨rfl,u⟩;have w:=jh (aJ m u);clear u;go_wp2_with fail;go_roundw
    case rel =>
     refine⟨j+1,od,OF,λi h A=>?_,w⟩
     by_cases e:i=j
     .subst e;exact y
     .exact g i h od
    case measure=>simp[intOf];omega
   | false =>
    rw[p]at q;have y:=jh p;clear p;go_wp2_with fail;refine q.mono ?_;rintro e N ⟨rfl,u⟩;have w:=jh (aJ m u);clear u;go_wp2_with fail;go_ret;refine⟨_,rfl,.inl ⟨od,?_⟩,w⟩
    cases H:s.all zt with
    | false=>rfl
    | true=>have:=zr.1 H s[j] (zj n);rw[y.out]at this;cases this
  .have d:s.all zt=true:=zr.2 λx M=>by
    obtain⟨i,A,rfl⟩:=ye M;exact g i A od
   have E:=jh d;have J:¬(j:Int)<(s.length:Int):=od
   clear d f;go_wp2_with fail;go_ret;refine⟨_,rfl,.inr ⟨rfl,?_⟩,m⟩
   first|exact E|exact zr.1 E
def CL{W:World}{s:List Ty}{a:Option Addr}{l c:Nat}(f:jo W s (.slice a l c)) :
 Calls prog 43 #[.slice a l c,.func (.func 44) #[] #[]] W λe w'=>e =.returned (.bool (!s.all zt))/\W.grownBy w' none:=by
 have H:=jh (JC f);clear f;generalize s.all zt=q at *;go_enter func43,ntmps43;go_wp2_with fail;refine H.mono ?_;rintro e j ⟨r,rfl,d,b⟩;have g:=jh b;have h:=jh d;clear b d;go_wp2_with fail;go_ret;refine Lf.kZ ?_ g;rcases h with⟨i,rfl⟩|⟨rfl,rfl⟩
 .simp[i]
 .rfl
def Ga{W:World}{s:List Ty}{a:Option Addr}{l c:Nat}(d:jo W s (.slice a l c)) :
 Calls prog 23 #[.slice a l c] W λe w'=>e =.returned (.bool (s.all zt))/\W.grownBy w' none:=by
 have H:=jh (CL d);clear d;generalize s.all zt=q at *;go_enter func23,ntmps23;go_wp2_with fail;refine H.mono ?_;rintro e g ⟨rfl,b⟩;have f:=jh b;clear b;go_wp2_with fail;go_ret;refine Lf.kZ ?_ f;simp
def Qz (l:List Int):A1:=.one (.d (.s 1 (l.map λk=>[.v (.i k)])))
def rowsD:List (List Tr)->List (List D)
 | []=>[]
 | r::rs=>[.s 5 (ndsD r)]::rowsD rs
def uq (p n:Int) (types:List Ty) (rows:List (List Tr)) (dk dn dp:Int) (ds:ByteArray) (da:List Tr):A1 :=
 .agg [.d (.v (.i p)),.d (.v (.i n)),.d (.s 2 (tysD types)),.d (.s 1 (rowsD rows)),.d (.v (.i dk)),.d (.v (.i dn)),.d (.v (.i dp)),.d (.v (.string ds)),.d (.s 5 (ndsD da))]
def ledA:iF->List A1
 | .no e=>[.agg [.d (.s 0 []),.d (.v (.bool false))],iA e]
 | .ok f ts=>[.agg [.d (.s 2 (tysD ts)),.d (.v (.bool f))],iA 0]
def iH (r:iF):AV:=.rz (ledA r)
def XI{W:World}{s:List Ty}{M:Value}{ks:List Int}{kb ko kc:Nat}(T:jo W s M)(hk:∀i (h:i<ks.length),W.cell? ⟨kb,ko+i,none⟩=some (.i ks[i]))(S:ks.length<=8) :
 Calls prog 102 #[M,.slice (some ⟨kb,ko,none⟩) ks.length kc] W λe w'=>e =.returned (.bool (sFq s ks))/\w'=W:=by
 obtain⟨sa,sc,V,rfl,U,x⟩:=T;have u:=x.1;unfold maxLen at u
 by_cases F:s.length<ks.length
 .have hz:(s.length:Int)<(ks.length:Int):=by omega
  have w:sFq s ks=false:=by
   cases h:sFq s ks with
   | false=>rfl
   | true=>have:=slq h;omega
  rw[w];clear x hk;go_enter func102,ntmps102;go_wp2_with fail;go_ret;exact⟨rfl,rfl⟩
 .have hz:¬(s.length:Int)<(ks.length:Int):=by omega
  have I:=jh x;have N:=jh hk;clear x hk;go_enter func102,ntmps102;go_wp2_with fail;go_loopw [14] (λH wr=>wr=W/\∃j:Nat,j<=ks.length/\H =.i j/\∀i (h:i<ks.length) (d:i<s.length),i<j->ks[i]=0\/(s[i]).t=ks[i]) (λH _=>ks.length - (intOf H).toNat)
  case atStart=>exact⟨rfl,0,kB _,rfl,λi _ _ h=>od⟩
  case round =>
   obtain⟨G,j,Z,rfl,a⟩:=hrel;replace G:=G.symm;subst G
   by_cases m:j<ks.length
   .have D:(j:Int)<(ks.length:Int):=by omega
    have q:j<s.length:=od
    have K:(j:Int)<(s.length:Int):=od
    have E:=N.out j m;obtain⟨b,o,rfl,_,t,X,l,c,L,Y,z⟩:=I.out.2.1 j q;have A:=I.out.2.2 j q;rw[L]at A;have v:(s[j]).t=t:=by obtain⟨_,_,_,e,_⟩:=A.inv;simp only[bY,qb3,qc1,xj,qg5,true_and]at e;exact e.1.symm
    have k:=jh a;have J:=jh v;obtain⟨n,r⟩:∃n,n=ks[j]:=⟨_,rfl⟩;rw[<-r]at E;have p:=jh r;clear a A L z v r F
    by_cases f:n=0
    .subst f;go_wp2_with fail;go_roundw
     case rel =>
      refine⟨by trivial,j+1,od,OF,λi B d C=>?_⟩
      by_cases e:i=j
      .subst e;exact .inl p.symm
      .exact k i B d od
     case measure=>simp[intOf];omega
    .have O:(n==0)=false:=by simpa using f
     have P:(n != 0)=true:=by simpa using f
     by_cases g:t=n
     .subst g;go_wp2_with fail;go_roundw
      case rel =>
       refine⟨by trivial,j+1,od,OF,λi B d C=>?_⟩
       by_cases e:i=j
       .subst e;exact .inr (J.trans p)
       .exact k i B d od
      case measure=>simp[intOf];omega
     .have Q:(t==n)=false:=by simpa using g
      have R:(t != n)=true:=by simpa using g
      have w:sFq s ks=false:=by
       cases h:sFq s ks with
       | false=>rfl
       | true =>
        have d:=((stand_iff s ks).1 h).2 j m q;rw[J.out,<-p.out]at d;rcases d with d|d
        .exact absurd d f
        .exact absurd d g
      have y:=jh w;clear w;go_wp2_with fail;go_ret;exact⟨by rw[y.out];rfl,rfl⟩
   .have D:¬(j:Int)<(ks.length:Int):=by omega
    have v:sFq s ks=true:=(stand_iff s ks).2 ⟨od,λi z d=>a i z d od⟩;have y:=jh v;clear a v;go_wp2_with fail;go_ret;exact⟨by rw[y.out];rfl,rfl⟩
def Ti{s:List Ty}{ks:List Int}(A:okTs s)(hk:0<ks.length)(z:ks.length<=8):Hd ⟨102,[dZ s,Qz ks],aQ (sFq s ks)⟩:=by
 refine⟨bK func102,λok w C h=>?_⟩
 match C,h with
 | [x,y],⟨n,p,_⟩ =>
  obtain⟨a,c,U,e,_⟩:=fH (n:fI ok w (.s 2 (tysD s)) x);subst e;obtain⟨l,j,V,q⟩:=rep_rowT _ (qv _) A n;obtain⟨G,kc,E,e,r,t,u,f⟩:=fH (p:fI ok w (.s 1 _) y);subst e;have d:∀(i:Nat) (g:i<ks.length),(ks.map λk=>[D.v (.i k)])[i]?=some [D.v (.i ks[i])]:=λi g=>by simp[g]
  obtain⟨⟨b,o,rfl,_⟩,_⟩:=f 0 _ 0 _ (d 0 hk) rfl;have hR:jo w s (.slice a s.length c):=⟨a,c,V,rfl,j,q.ae (λ_ _ _=>trivial)⟩;rw[l];have:=XI (ks:=ks) (kb:=b) (ko:=o) (kc:=kc) hR (λi g=>by obtain⟨⟨F,H,e,_,m⟩,B⟩:=f i _ 0 _ (d i g) rfl;simp only[qk,qb2,and_true]at e;obtain⟨rfl,rfl⟩:=e;rw[bW B]at m;simpa using m) z
  refine (by simpa using this:Calls _ _ _ _ _).mono ?_;rintro e I ⟨rfl,rfl⟩;exact⟨bM _ _,_,rfl,fI.v _⟩
section
variable {T U:Ty}
def Wx(b:okT T)(c:T.size<=50000000):Hd ⟨99,[tyA T],aQ (oF T)⟩:=jM (bK func99) λe w d h=>by
 match d,h with
 | [v],⟨a,_⟩=>exact tV ((jC b a).ae (λ_ h _=>h)) c
def Wy(b:okT T)(c:T.size<=50000000):Hd ⟨104,[tyA T],aQ (A7 T)⟩:=jM (bK func104) λe w d h=>by
 match d,h with
 | [v],⟨a,_⟩=>exact Jp ((jC b a).ae (λ_ h _=>h)) c
def WC(b:okT T)(c:T.size<=50000000):Hd ⟨112,[tyA T],aQ (eB T)⟩:=jM (bK func112) λe w d h=>by
 match d,h with
 | [v],⟨a,_⟩=>exact BQ ((jC b a).ae (λ_ h _=>h)) c
def Tj(b:okT T)(c:T.size<=50000000):Hd ⟨114,[tyA T],aQ (storeT T)⟩:=jM (bK func114) λe w d h=>by
 match d,h with
 | [v],⟨a,_⟩=>exact KA ((jC b a).ae (λ_ h _=>h)) c
def Po(c:okT T)(e:T.size<=50000000)(d:okT U):Hd ⟨39,[tyA T,tyA U],aQ (sameT T U)⟩:=jM (bK func39) λg w f h=>by
 match f,h with
 | [v,u],⟨a,b,_⟩=>exact Ik ((jC c a).ae (λ_ h _=>h)) ((jC d b).ae (λ_ h _=>h)) e
end
def lg{x y:List Ty}{m n:Nat}(B:okTs x)(C:okTs y)(z:m=2\/x=[])(A:n=2\/y=[])(u:x.length+y.length<=20000000):Hd ⟨105,[.one (.d (.s 1 [[.s m (tysD x)],[.s n (tysD y)]]))],.of (dZ (x++y))⟩:=by
 refine⟨bK func105,λok w k h=>?_⟩
 match k,h with
 | [v],⟨o,_⟩ =>
  obtain⟨a,c,U,rfl,_,_,_,i⟩:=fH (o:fI ok w (.s 1 _) v);obtain⟨⟨b,q,rfl,_,f⟩,D⟩:=i 0 _ 0 _ rfl rfl;obtain⟨⟨H,I,e,_,g⟩,E⟩:=i 1 _ 0 _ rfl rfl;simp only[qk,qb2,and_true]at e;obtain⟨rfl,rfl⟩:=e;obtain⟨K,L,F,ex,_,r⟩:=jR B z D;obtain⟨M,N,G,l,_,t⟩:=jR C A E;rw[ex]at f;rw[l]at g;refine (TT (qc:=c) (by simpa using f) (by simpa using g) r t u).mono ?_;rintro e J ⟨v,k,rfl,p,j⟩;exact⟨j,v,rfl,p.rep j (by simp[maxLen];omega)⟩
def YZ{x y:List Ty}{m n:Nat}(k:okTs x)(l:okTs y)(i:m=2\/x=[])(j:n=2\/y=[])(hz:tysizes x<=50000000):Hd ⟨38,[.one (.d (.s m (tysD x))),.one (.d (.s n (tysD y))),.one (.d (.v (.func (.func 39) #[] #[])))],aQ (sameTs x y)⟩ :=
 jM (bK func38) λok w o h=>by
  match o,h with
  | [u,v,f],⟨a,b,c,_⟩ =>
   obtain⟨r,t,p,rfl,_,e⟩:=jR k i a;obtain⟨z,A,q,rfl,_,g⟩:=jR l j b;have:=bW c;subst this;exact tY (e.ae (λ_ _ _=>trivial)) (g.ae (λ_ _ _=>trivial)) hz w (bM _ _)
def KZ{l:List Tr}(f:okNs l):Hd ⟨90,[CW l],aQ (mintsTs l)⟩:=jM (bK func90) λok w g h=>by
 match g,h with
 | [v],⟨b,_⟩ =>
  obtain⟨a,c,U,e,_⟩:=fH (b:fI ok w (.s 5 (ndsD l)) v);subst e;obtain⟨e,i,V,d⟩:=rep_rowN _ (qv _) f b;rw[e];exact mints_any _ (d.ae (λ_ _ _=>trivial)) (qv _)
def C9{s:List Ty}(f:okTs s):Hd ⟨23,[dZ s],aQ (s.all zt)⟩:=jM (bK func23) λok w g h=>by
 match g,h with
 | [v],⟨b,_⟩ =>
  obtain⟨a,c,V,rfl,e,d⟩:=jR f (.inl rfl) b;exact Ga ⟨a,c,V,rfl,e,d.ae (λ_ _ _=>trivial)⟩
def pz(t:Int)(az:List Ty):Hd ⟨106,[iA t,dZ az],.of (tyA (.nd t az))⟩:=aF func106 []
def dA(t:Int):Hd ⟨106,[iA t,nilA],.of (tyA (.nd t []))⟩:=by
 have h:Hd ⟨106,[iA t,nilA],.of (.agg [.d (.v (.i t)),.d (.s 0 [])])⟩:=aF func106 [];exact h.conv (λ_ _ _ h=>h) (λg w v ⟨f,e,c⟩=>by
  match f,c with
  | [x,y],⟨a,b,_⟩=>exact⟨_,e,a,gG b,trivial⟩)
def vS{s top:List Ty}(b:okTs s)(c:okTs top)(a:top.length+s.length<=20000000):Hd ⟨103,[dZ s,dZ top],iH (fQ s top)⟩ :=
 aF func103 [⟨_,lg c b (.inl rfl) (.inl rfl) a⟩]
def AO{s:List Ty}(b:okTs s)(a:s.length<=20000000):Hd ⟨103,[dZ s,nilA],iH (fQ s [])⟩ :=
 aF func103 [⟨_,lg (m:=0) (x:=[]) (y:=s) trivial b (.inr rfl) (.inl rfl) (by simpa using a)⟩]
def ag(e:Int):Hd ⟨22,[iA e],iH (.no e)⟩:=aF func22 []
open Pe
def iX{s:List Ty}{ks:List Int}(h:sFq s (0::ks)=true):∃t a r,s =.nd t a::r/\sFq r ks=true:=by
 cases s with
 | nil=>simp[sFq]at h
 | cons T r =>
  simp only[sFq,qu]at h;obtain⟨t,a⟩:=T;exact⟨t,a,r,rfl,h.2⟩
def fT{s:List Ty}{k:Int}{ks:List Int}(hk:k≠0)(h:sFq s (k::ks)=true):∃a r,s =.nd k a::r/\sFq r ks=true:=by
 cases s with
 | nil=>simp[sFq]at h
 | cons T r =>
  simp only[sFq,qu,qc7,ki]at h;obtain⟨t,a⟩:=T;obtain⟨b|b,c⟩:=h
  .exact absurd b hk
  .simp only[Ty.t]at b;subst b;exact⟨a,r,rfl,c⟩
def st2{u v j k:Int}{c d:List Ty}(f:j≠0)(hk:k≠0)(h:sFq [.nd u c,.nd v d] [j,k]=true):u=j/\v=k:=by obtain⟨a,r,e,b⟩:=fT f h;simp only[xj,Ty.nd.injEq]at e;obtain⟨⟨rfl,_⟩,rfl⟩:=e;obtain⟨a,r,e,_⟩:=fT hk b;simp only[xj,Ty.nd.injEq]at e;exact⟨rfl,e.1.1⟩
def lZ{k:Int}{a:List Ty}(h:zt (.nd k a)=true)(c:bT k=0):a=[]:=by have b:=xL h;simp only[Ty.args,Ty.t,c]at b;exact ju od
def GR{a:List Ty}(h:a.length=1):∃t b,a=[.nd t b]:=by
 match a,h with
 | [.nd t b],_=>exact⟨t,b,rfl⟩
def Uk{a:List Ty}(h:a.length=2):∃t b u c,a=[.nd t b,.nd u c]:=by
 match a,h with
 | [.nd t b,.nd u c],_=>exact⟨t,b,u,c,rfl⟩
def Bi{k:Int}{a:List Ty}(h:zt (.nd k a)=true)(d:bT k=1):∃t b,a=[.nd t b]:=by have c:=xL h;simp only[Ty.args,Ty.t,d]at c;exact GR od
def vY{k:Int}{a:List Ty}(h:zt (.nd k a)=true)(e:bT k=2):∃t b u c,a=[.nd t b,.nd u c]:=by have d:=xL h;simp only[Ty.args,Ty.t,e]at d;exact Uk od
def sz_len:∀{s:List Ty},s.all zt=true->tysizes s<=300*s.length
 | [],_=>by simp[tysizes]
 | T::s,h=>by simp only[xf,qu]at h;have a:=sz_len h.2;have:=h.1;simp only[zt,qu,ki]at this;simp only[tysizes,jn];omega
def dD{s:List Ty}(h:s.all zt=true)(a:s.length<=1000):tysizes s<=300000:=by have:=sz_len h;omega
section
variable {T U:Ty}{b:Bool}
def aN{s:List Ty}{k:Int}{ks:List Int}(c:okTs s)(h:sFq s (k::ks)=b)(a:(k::ks).length<=8:=by simp):Hd ⟨102,[dZ s,Qz (k::ks)],aQ b⟩:=h ▸ Ti c ot a
def aS{s:List Ty}{k:Int}{ks:List Int}(b:okTs s)(h:sFq s (k::ks)=true:=by simp[sFq,Ty.t])(a:(k::ks).length<=8:=by simp):Hd ⟨102,[dZ s,Qz (k::ks)],aQ true⟩:=aN b h a
def dQ{s top:List Ty}(b:okTs s:=by simp_all [okTs,okT,bD])(c:okTs top:=by simp_all [okTs,okT,bD])(a:top.length+s.length<=20000000:=by simp only[jn,xT]at *;omega):Hd ⟨103,[dZ s,dZ top],iH (fQ s top)⟩:=vS b c a
abbrev HI (f:FuncId) (p n:Int) (types:List Ty) (rows:List (List Tr)) (dk dn dp:Int) (ds:ByteArray) (da:List Tr) (s:List Ty) (F:Ins->List Ty->iF):Prop:=Hd ⟨f,[uq p n types rows dk dn dp ds da,dZ s],iH (F ⟨p,n,types,rows,.nd dk dn dp ds da⟩ s)⟩
def gu(a:okT T)(d:T.size<=50000000)(c:okT U)(h:sameT T U=b):Hd ⟨39,[tyA T,tyA U],aQ b⟩:=h ▸ Po a d c
def uQ(a:okT T)(c:T.size<=50000000)(h:oF T=b):Hd ⟨99,[tyA T],aQ b⟩:=h ▸ Wx a c
def Ak(a:okT T)(c:T.size<=50000000)(h:A7 T=b):Hd ⟨104,[tyA T],aQ b⟩:=h ▸ Wy a c
def pG(a:okT T)(c:T.size<=50000000)(h:eB T=b):Hd ⟨112,[tyA T],aQ b⟩:=h ▸ WC a c
def FO(a:okT T)(c:T.size<=50000000)(h:storeT T=b):Hd ⟨114,[tyA T],aQ b⟩:=h ▸ Tj a c
end
def H_two93:Hd ⟨110,[iA 93],aQ false⟩:=aF func110 []
def H_two94:Hd ⟨110,[iA 94],aQ false⟩:=aF func110 []
def H_two95:Hd ⟨110,[iA 95],aQ false⟩:=aF func110 []
def H_two69:Hd ⟨110,[iA 69],aQ true⟩:=aF func110 []
def H_two70:Hd ⟨110,[iA 70],aQ true⟩:=aF func110 []
def H_two71:Hd ⟨110,[iA 71],aQ true⟩:=aF func110 []
def H_two72:Hd ⟨110,[iA 72],aQ true⟩:=aF func110 []
