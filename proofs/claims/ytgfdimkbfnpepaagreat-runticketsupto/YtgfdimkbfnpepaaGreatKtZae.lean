import Derived.Test.YtgfdimkbfnpepaaGreatKtZad
namespace Go.Proofs.YtgfdimkbfnpepaaGreat.Pe
set_option linter.all false
open Go.Proofs.Tryz
set_option maxRecDepth 100000
set_option maxHeartbeats 4000000
abbrev Tx (P:Program) (f:FuncId) (args:List A1) (res:AV):Prop:=∀(ok:br) (w:bx) (vs:bk),dU (gm (λ_=>none) ok w) args vs ->
 Calls P f vs.toArray w λe w'=>cm w w' none/\∃v,e =.returned v/\iZ (λ_=>none) (λb=>ok b\/w.heap.size<=b) w' res v
abbrev Tw [pq] (P:Program) (f:FuncId) (args:List A1) (res:AV) (i j:Nat):Prop:=∀(ok:br) (w:bx) (vs:bk),pq.G i w ok->dU (gm (λ_=>none) ok w) args vs ->
 Calls P f vs.toArray w λe w'=>w.heap.size<=w'.heap.size/\∃ok1:br,pq.G j w' ok1/\(∀b,b<w.heap.size->ok b->ok1 b/\w'.heap[b]?=w.heap[b]?)/\∃v,e =.returned v/\iZ (λ_=>none) ok1 w' res v
def QH (ok:br) (w w':bx) (e:TypeId) (n:Nat) (es:List bd) (v:cg):Prop :=
 ∃b c,v =.o b es.length c/\w.heap.size<=b/\es.length<=c/\Zp w' b=some (c*n,e)/\EX (λ_=>some b) (λb'=>(ok b'\/w.heap.size<=b')/\b'≠b) w' 2000000 e n es
def Z7 (P:Program) (f:FuncId) (args:List A1):AV->Prop
 | .vT e n es=>∀(ok:br) (w:bx) (vs:bk),dU (gm (λ_=>none) ok w) args vs->Calls P f vs.toArray w λx w'=>cm w w' none/\∃v,x =.returned v/\QH ok w w' e n es v
 | _=>False
structure Holds [pq] (P:Program) (s:Sp):Prop where
 OT:(∀(args:Array cg) (w:bx),(callFunc s.f args).run P w =.ok (.enter s.f args) w)/\s.res.keys=[]
 run:match s.mv.p with
  | none=>match s.fr.b with|true=>Z7 P s.f s.args s.res|false=>Tx P s.f s.args s.res
  | some (i,j)=>Tw P s.f s.args s.res i j
def Holds.runN[pq]{P:Program}{s:Sp}(h:Holds P s)(e:(s.mv.p,s.fr.b)=(.none,false)):Tx P s.f s.args s.res:=by have:=h.run;simp only[kh]at e;rw[e.1]at this;rw[e.2]at this;exact this
def Holds.abm[pq]{P:Program}{s:Sp}(h:Holds P s)(e:s.mv.p =.none)(a:s.fr.b:=by rfl):Z7 P s.f s.args s.res:=by have:=h.run;rw[e]at this;rw[a]at this;exact this
def Holds.runM[pq]{P:Program}{s:Sp}(h:Holds P s){i j:Nat}(e:s.mv.p =.some (i,j)):Tw P s.f s.args s.res i j:=by have:=h.run;rw[e]at this;exact this
def mJ{σ:St}{k:Nat} : ∀(n q:Nat) (xs:List X),mI σ k q n=some xs->xs.length=n/\∀(j:Nat) (x:X),xs[j]?=some x->get σ (k+1,q+j)=some (.of (.one x))
 | 0,q,xs,h=>by simp only[mI,qk]at h;subst h;simp
 | n+1,q,xs,h=>by
  simp only[mI]at h;split at h
  .rename_i x e;simp only[kd]at h;obtain⟨d,h,rfl⟩:=h;have⟨b,c⟩:=mJ n (q+1) d h;refine⟨by simp[b],λj y a=>?_⟩
   cases j with
   | zero=>simp only[kA,qk]at a;subst a;exact e
   | succ j=>have:=c j y (by simpa using a);rwa [show q+1+j=q+(j+1) by omega]at this
  .cases h
def DU{k:Nat} : ∀(n q j:Nat),j<n->(k+1,q+j)∈BD k q n
 | n+1,q,0,_=>by simp[BD]
 | n+1,q,j+1,h=>by have:=DU (k:=k) n (q+1) j od;rw[show q+1+j=q+(j+1) by omega]at this;simp only[BD,zr];exact .inr this
def oD{k:Nat} : ∀(xs:List X) (q:Nat) (x:Loc) (v:AV),(x,v)∈oC k q xs->∃j y,x=(k+1,q+j)/\xs[j]?=some y/\v =.of (.one y)
 | y::d,q,x,v,h=>by
  simp only[oC,zr,kh]at h;rcases h with⟨rfl,rfl⟩|h
  .exact⟨0,y,rfl,rfl,rfl⟩
  .have⟨j,z,a,b,c⟩:=oD d (q+1) x v h;exact⟨j+1,z,by rw[a];simp;omega,by simpa using b,c⟩
def rF{k:Nat} : ∀(xs:List X) (q j:Nat),j<xs.length->(k+1,q+j)∈(oC k q xs).map (·.1)
 | y::a,q,0,_=>by simp[oC]
 | y::a,q,j+1,h=>by have:=rF (k:=k) a (q+1) j (by simpa using h);rw[show q+1+j=q+(j+1) by omega]at this;simp only[oC,qc3,zr];exact .inr this
def setCells_size(b:Nat):∀(vs:bk) (o:Nat) (w:bx),(w.setCells b o vs).heap.size=w.heap.size
 | [],_,_=>rfl
 | v::r,o,w=>by rw[World.setCells,setCells_size b r];simp
def o7(b i:Nat)(a:i≠b):∀(vs:bk) (o:Nat) (w:bx),(w.setCells b o vs).heap[i]?=w.heap[i]?
 | [],_,_=>rfl
 | v::r,o,w=>by rw[World.setCells,o7 b i a r,heap_setCell_other _ _ _ _ a]
def wm(b:Nat):∀(vs:bk) (o:Nat) (w:bx),(w.setCells b o vs).os=w.os/\(w.setCells b o vs).tape=w.tape/\(w.setCells b o vs).output=w.output
 | [],_,_=>⟨rfl,rfl,rfl⟩
 | v::r,o,w=>by rw[World.setCells];exact wm b r _ _
section
variable {P:Program}{Wb W0:bx}{okb ok0:br}{ds:List Deferred}{nt:Nat}{β:Nat->Option Nat}{a:Act}{w:bx}{σ σL:St}{o:Oper}{T:List (Nat×Bool×Bool)}{C C':List Sp}{ob:Obl}{u:Out}
abbrev zl (σ:St) (v:AV):Prop:=∀n∈v.keys,(get σ (n+1,0)).isSome
abbrev Z6 (σL σ:St) (o:Oper):Prop:=∀x∈o.op.operands.toList,∀v,tC σ x=some v->zl σL v
abbrev Comes [pq] (P:Program) (Wb:bx) (okb:br) (W0:bx) (ok0:br) (β:Nat->Option Nat) (a:Act) (w:bx) (σL:St) (o:Oper) (u:Out):Prop :=
 ∀(K:Act->bx->Prop) (Q:Exit->Act->bx->Prop),(∀W1 ok1 β' w' val,Dc σL W0 ok0 β w W1 ok1 β' w' (u.mem.map (·.1))->iZ β' (okB W1.heap.size ok1 β') w' (u.res.getD undefA) val->(∀x v,(x,v)∈u.mem->x.1≠1000001->∀a',EH β' (okB W1.heap.size ok1 β') a' w' x v)->qp Wb okb W1 ok1 β' (u.mem++σL)->zl (u.mem++σL) (u.res.getD undefA)->(∀x v,(x,v)∈u.mem->zl (u.mem++σL) v)->K (a.put o.dst val) w')->o.wp P a w K Q
def zD{K:Act->bx->Prop}{Q:Exit->Act->bx->Prop}{v:cg}{w':bx}(h:(execOp a.eval o).run P w =.ok (.value v) w')(hk:K (a.put o.dst v) w'):o.wp P a w K Q:=by unfold Oper.wp;rw[h];exact hk
def P8[pq](b:Inv Wb okb W0 ok0 ds nt β a w σL){v:AV}(h:Does P β (okB W0.heap.size ok0 β) a w o v)(hk:zl σL v):Comes P Wb okb W0 ok0 β a w σL o ⟨some v,[],[]⟩:=λK Q e=>by have⟨x,c,d⟩:=h;exact zD c (e W0 ok0 β w x (b.grow ⟨rfl,rfl,rfl,qS _,λ_ _ _=>rfl⟩) d ot b.FK hk ot)
def V8[pq](g:Inv Wb okb W0 ok0 ds nt β a w σL){A:A1}{v:cg}{elem:TypeId}(Y:dU (jm β (okB W0.heap.size ok0 β) w) A.xs v.cells.toList)(I:∀x∈A.xs,∀n∈x.keys,(get σL (n+1,0)).isSome)(h:M6 σ o A=some u)(t:∀x∈u.rd,get σL x=get σ x)(G:∀x∈u.mem.map (·.1),get σL x=get σ x)
 (hrun:(execOp a.eval o).run P w =.ok (.value (.po (w.heap.size))) (w.alloc (.cells v.cells elem))):Comes P Wb okb W0 ok0 β a w σL o u:=λK Q hK=>by
 unfold M6 at h;split at h
 .rename_i d x xs hd T;split at h
  .rename_i O;have p:d<1000000:=O.2.2;simp only[qk]at h;subst h;rw[T]at Y;have hβ:β d=none:=by
    cases e:β d with
    | none=>rfl
    | some b =>
     have s:=g.dom d b e;rw[G (d+1,0) (by rw[qb5,xb];exact .inl (by have:=rF (k:=d) (x::xs) 0 0 ot;simpa using this))]at s;rw[qa4.1 O.2.1]at s;cases s
   let β':Nat->Option Nat:=λk=>if k=d then some w.heap.size else β k
   have hβ':∀k b,β' k=some b->(k=d/\b=w.heap.size)\/β k=some b:=λk b e=>by
    simp only[β']at e;split at e
    .rename_i C;simp only[qk]at e;exact .inl ⟨C,e.symm⟩
    .exact .inr e
   have l:∀b,b<w.heap.size->(w.alloc (.cells v.cells elem)).heap[b]?=w.heap[b]?:=λb N=>(jg4 w _ none).block b N ot;have B:(w.alloc (.cells v.cells elem)).heap[w.heap.size]?=some (.cells v.cells elem):=by show (w.heap.push _)[w.heap.size]?=_;simp
   have m:Dc σL W0 ok0 β w W0 ok0 β' (w.alloc (.cells v.cells elem)) ((oC d 0 (x::xs)++mark d (get σ (1000001,0))).map (·.1)):={
    nk:=by simp only[β'];rw[if_neg (λe=>by rw[<-e]at p;exact jg1 _ p)];exact g.nk
    gr:=gtr g.gr (jg4 w _ none)
    new:=λk b e=>by
     have:=g.gr.size;rcases hβ' k b e with⟨_,rfl⟩|e
     .exact⟨.inl this,ot⟩
     .exact⟨(g.new k b e).1,by have:=(g.new k b e).2;simp;omega⟩
    inj:=λk U b e J=>by
     rcases hβ' k b e with⟨s,W⟩|e<;>rcases hβ' U b J with⟨X,h4⟩|J
     .rw[s,X]
     .have:=(g.new U b J).2;omega
     .have:=(g.new k b e).2;omega
     .exact g.inj k U b e J
    sub:=λk b _ e=>by simp only[β'];rw[if_neg (λC=>by subst C;rw[hβ]at e;cases e)];exact e
    fresh:=λk b e=>by
     rcases hβ' k b e with⟨rfl,_⟩|e
     .exact .inr (by rw[qb5,xb];exact .inl (by have:=rF (k:=k) (x::xs) 0 0 ot;simpa using this))
     .exact .inl e
    keep:=⟨ot,λb N ho=>⟨by
     rcases ho with s|⟨s,W⟩
     .exact .inl s
     .exact .inr ⟨s,λk e=>by
       rcases hβ' k b e with⟨_,X⟩|e
       .omega
       .exact W k e⟩,λq=>qt (l b N)⟩⟩
    own:=λk b q _ e _=>⟨qt (l b (g.new k b e).2),jd5 (l b (g.new k b e).2)⟩
    Kk:=λk b hk e _=>⟨by simp only[β'];rw[if_neg (λC=>by rw[C]at hk;exact Nat.not_lt.2 hk (Nat.lt_trans p ov))];exact e,l b (g.new k b e).2⟩
    alive:=λn r b e=>by
     rcases hβ' n b e with⟨rfl,_⟩|e
     .rw[G (n+1,0) (by rw[qb5,xb];exact .inl (by have:=rF (k:=n) (x::xs) 0 0 ot;simpa using this)),qa4.1 O.2.1]at r;cases r
     .exact⟨e,qc (l b (g.new n b e).2)⟩ }
   have R:∀y∈A.xs,∀n∈y.keys,(get (oC d 0 (x::xs)++mark d (get σ (1000001,0))++σL) (n+1,0)).isSome:=λy f n r=>get_mono _ _ _ (.inl (I y f n r));refine zD hrun (hK W0 ok0 β' _ _ m ⟨w.heap.size,⟨by simp[β'],p⟩,rfl⟩ (λy z f S a'=>?_) ?_ (λn r=>by cases r) (λy z f n r=>?_))
   rotate_left 2
   .rw[xb]at f;rcases f with f|f
    .obtain⟨j,c,rfl,M,rfl⟩:=oD _ _ _ _ f;exact R c (by rw[T];exact zj M) n r
    .exfalso
     cases D:get σ (1000001,0)with
     | none=>rw[D]at f;simp[mark]at f
     | some v =>
      obtain⟨i,rfl,_⟩:=g.FK.2 v ((t (1000001,0) ot).trans D);rw[D]at f;simp only[mark,js,kh]at f;rw[f.2]at r;cases r
   rotate_left
   .rw [ur];refine qp.skip ?_ (λy f=>?_)
    .have ev:=t (1000001,0) ot;rw[<-ev];have⟨Z,v2⟩:=g.FK
     cases H:get σL (1000001,0)with
     | none =>
      refine⟨λ_=>⟨(Z H).1,λk b e=>?_⟩,λv F=>?_⟩
      .rcases hβ' k b e with⟨_,rfl⟩|e
       .exact g.gr.size
       .exact (Z H).2 k b e
      .simp only[mark,qe5,H]at F;cases F
     | some v =>
      obtain⟨i,rfl,g1,gf,g2⟩:=v2 v H;have V:get (mark d (some (Aj i))++σL) (1000001,0)=some (Aj i):=by rw[get_skip _ _ _ (by simp[mark])];exact H
      refine⟨λh=>?_,λv F=>?_⟩
      .rw[V]at h;cases h
      .rw[V]at F;simp only[qk]at F;subst F;refine⟨i,rfl,g1,gf,λk v' hk=>?_⟩
       by_cases E:k=d
       .subst E;simp only[mark,qd0,qe5,get,if_pos,qk]at hk;refine⟨i,hk.symm,qS _,λ_ b e=>?_⟩;rcases hβ' k b e with⟨_,rfl⟩|e
        .exact g.gr.size
        .rw[hβ]at e;cases e
       .rw[get_skip _ _ _ (by simp[mark,E])]at hk;have⟨j,j1,j2,j3⟩:=g2 k v' hk;refine⟨j,j1,j2,λej b e=>?_⟩;rcases hβ' k b e with⟨L,_⟩|e
        .exact absurd L E
        .exact j3 ej b e
    .simp only[ud]at f;obtain⟨⟨y1,y2⟩,f,rfl⟩:=f;obtain⟨j,c,rfl,_,_⟩:=oD _ _ _ _ f;exact λe=>jg1 _ ((Nat.succ.inj e:d=1000000) ▸ p)
   replace f:(y,z)∈oC d 0 (x::xs):=by
    rw[xb]at f;rcases f with f|f
    .exact f
    .exfalso;revert f;cases get σ (1000001,0)with
     | none=>simp[mark]
     | some v=>simp only[mark,js,kh];rintro⟨rfl,_⟩;exact S rfl
   obtain⟨j,c,rfl,M,rfl⟩:=oD _ _ _ _ f;have⟨uv,L,C⟩:=Y.get _ _ M;refine⟨w.heap.size,uv,c,⟨by simp[β'],p⟩,rfl,?_,?_,jm.u6 m.keep m.sub _ _ (λn r=>m.alive n (I c (by rw[T];exact zj M) n r)) C⟩
   .rw[qg6]at L;simp only[World.cell?,B,qa2];exact L
   .simp only[World.frozen?,B,Nat.not_lt_zero,decide_false,Bool.and_false]
  .cases h
 .cases h
def EL[pq](t:Inv Wb okb W0 ok0 ds nt β a w σL){k q o:Nat}{xs:List X}{b:Nat}(hb:β k=some b/\k<1000000)(h:mI σ k q o=some xs)(l:∀x∈BD k q o,get σL x=get σ x) :
 (∀x∈xs,∀n∈x.keys,(get σL (n+1,0)).isSome)/\∃vs:bk,dU (jm β (okB W0.heap.size ok0 β) w) xs vs/\∀(j:Nat) (v:cg),vs[j]?=some v->w.cell? ⟨b,q+j,none⟩=some v/\w.frozen? ⟨b,q+j,none⟩=false:=by
 have⟨A,z⟩:=mJ _ _ _ h;have d:∀(j:Nat) (x:X),xs[j]?=some x->∃v,(w.cell? ⟨b,q+j,none⟩=some v/\w.frozen? ⟨b,q+j,none⟩=false)/\jm β (okB W0.heap.size ok0 β) w x v:=λj x m=>by
  have c:j<o:=by rw[<-A];exact (qv.1 m).1
  have⟨I,u,y,f,g,C,D,E⟩:=t.rep (k+1,q+j) _ (λe=>by have e:k+1=1000001:=e;have:=hb.2;omega) ((l _ (DU o q j c)).trans (z j x m));have f:=f.1;rw[hb.1]at f;simp only[qk]at f;subst f;simp only[AV.of.injEq,A1.one.injEq]at g;subst g;exact⟨u,⟨C,D⟩,E⟩
 refine⟨λx G n F=>?_,(List.range xs.length).map λj=>(w.cell? ⟨b,q+j,none⟩).getD undef,dU.of ot (λi x v f g=>?_),λj v r=>?_⟩
 .have⟨j,m⟩:=qg3 G;exact t.hk _ _ ((l _ (DU o q j (by rw[<-A];exact (qv.1 m).1))).trans (z j x m)) n F
 .have⟨H,⟨p,_⟩,s⟩:=d i x f;have c:i<xs.length:=(qv.1 f).1;simp[c,p]at g;exact g ▸ s
 .have c:j<xs.length:=by have:=(qv.1 r).1;simpa using this
  have⟨H,⟨p,B⟩,s⟩:=d j _ (qn c);simp[c,p]at r;exact⟨r ▸ p,B⟩
end
def nM{α:Type}(n:Nat):∀(k:Nat) (l:List α),(chunk n k l).length=k
 | 0,_=>rfl
 | k+1,l=>by simp[chunk,nM n k]
def uU{α:Type}(n:Nat):∀(k:Nat) (l:List α),l.length=k*n->∀(i:Nat) (r:List α),(chunk n k l)[i]?=some r->r.length=n/\∀(j:Nat) (x:α),r[j]?=some x->l[i*n+j]?=some x
 | 0,l,_,i,r,h=>by simp[chunk]at h
 | k+1,l,b,0,r,h=>by
  simp only[chunk,kA,qk]at h;subst h;rw[ja1]at b;refine⟨oB,λj x a=>?_⟩;rw[qb4]at a;split at a
  .simpa using a
  .cases a
 | k+1,l,b,i+1,r,h=>by simp only[chunk,yy]at h;rw[ja1]at b;have⟨c,d⟩:=uU n k (l.drop n) oB i r h;refine⟨c,λj x a=>?_⟩;have:=d j x a;rw[ja3]at this;rw[ja1,show i*n+1*n+j=n+(i*n+j) by omega];exact this
section
variable {P:Program}{Wb W0:bx}{okb ok0:br}{ds:List Deferred}{nt:Nat}{β:Nat->Option Nat}{a:Act}{w:bx}{σ σL:St}{o:Oper}{T:Hints}{C C':List Sp}{ob:Obl}{u:Out}
def JY{g:Bool}{xs:List X}{v:AV}(h:mkA g xs=some v):∀n∈v.keys,∃x∈xs,n∈x.keys:=by
 cases g with
 | true=>simp only[mkA,qk]at h;subst h;intro n a;simpa[AV.keys,A1.keys,qc1]using a
 | false =>
  match xs,h with
  | [x],h=>simp only[mkA,qk]at h;subst h;intro n a;exact⟨x,ot,a⟩
def aa6{l:bd}{x:X}(h:x∈l.map X.d):x.keys=[]:=by obtain⟨y,_,rfl⟩:=ud.1 h;rfl
def YY{n:Nat}(c:0<n):∀{es:List bd},(∀r∈es,r.length=n)->∀{p:Nat}{x:D},es.flatten[p]?=some x->∃r,es[p / n]?=some r/\r[p % n]?=some x
 | [],_,p,x,h=>by simp at h
 | r::es,d,p,x,h=>by
  have i:=d r ot;rw[List.flatten_cons]at h
  by_cases a:p<n
  .rw[jz od]at h;exact⟨r,by rw[Nat.div_eq_of_lt a];rfl,by rw[je3 a];exact h⟩
  .rw[ju od,i]at h;have⟨q,f,g⟩:=YY c (λr b=>d r (by simp[b])) h;have e:p=p - n+n:=by omega
   refine⟨q,?_,?_⟩
   .rw[e,Nat.add_div_right _ c];simpa using f
   .rw[e,Nat.add_mod_right];exact g
def EX.cells{ok:br}{k n:Nat}{d:TypeId}{es:List bd}{b:Nat}(h:EX β ok w k d n es)(hb:β k=some b):∀{p:Nat}{x:D},es.flatten[p]?=some x->∃u,w.cell? ⟨b,p,none⟩=some u/\fI ok w x u:=λ{p x} j=>by have⟨o,cs,c,a,e,q,s,t,f,g,i⟩:=h;have a:=a.1;rw[hb]at a;simp only[qk]at a;subst a;have⟨r,l,m⟩:=YY f g j;have⟨u,u1,u2⟩:=i _ _ _ _ l m;rw[Nat.div_add_mod' p n]at u1;exact⟨u,by simp only[World.cell?,e];exact u1,u2⟩
def WZ[pq](J:Inv Wb okb W0 ok0 ds nt β a w σL){t:TypeId}{x:Operand}(U:o.op =.load t x)(h:Dk P T C σ o=some (u,C',ob))(H:CK β (okB W0.heap.size ok0 β) a w σ o)(aa:∀p∈ob,p.2)(M:∀x∈u.rd,get σL x=get σ x):C'=C/\Comes P Wb okb W0 ok0 β a w σL o u:=by
 simp only[Dk,U]at h;have hx:=H x (by simp[U,Op.operands])
 -- a I of data that lies somewhere
 have I:∀{b G:Nat} {L:bd} {d:TypeDesc} {i:TypeInfo} {v:AV} {rd:List Loc},P.underlying t=some d->P.info? t=some i->L.length=i.size->a.eval x =.pointer (some ⟨b,G,none⟩)->(∀(j:Nat) (y:D),L[j]?=some y->∃z,w.cell? ⟨b,G+j,none⟩=some z/\fI (okB W0.heap.size ok0 β) w y z)->mkA (aggB d) (L.map .d)=some v->Comes P Wb okb W0 ok0 β a w σL o ⟨some v,[],rd⟩:=λ{b G L d i v rd} F E hl A r g=>by
  let s:=(List.range i.size).map λj=>(w.cell? ⟨b,G+j,none⟩).getD undef
  have V:dU (jm β (okB W0.heap.size ok0 β) w) (L.map .d) s:=by
   refine dU.of (by simp[s,hl]) (λj y z m h4=>?_);simp only[qb7,kd]at m;obtain⟨y',m,rfl⟩:=m;have f:j<i.size:=by rw[<-hl];exact (qv.1 m).1
   have⟨z',R,c2⟩:=r _ _ m;simp[s,f,R]at h4;exact h4 ▸ c2
  have B:∀(j:Nat) (v:cg),s[j]?=some v->w.cell? ⟨b,G+j,none⟩=some v:=λj z hz=>by
   have f:j<i.size:=by have:=(qv.1 hz).1;simpa[s]using this
   have⟨z',R,c2⟩:=r _ _ (qn (by omega:j<L.length));simp[s,f,R]at hz;exact hz ▸ R
  have⟨z,r1,r2,r3⟩:=E9 g V;refine λK Q X=>zD (v:=z) (w':=w) ?_ (X W0 ok0 β w z (J.grow ⟨rfl,rfl,rfl,qS _,λ_ _ _=>rfl⟩) r1 ot J.FK (λn hn=>?_) ot)
  .have:=uJ (P:=P) (w:=w) (b:=b) (q:=G) F E (by simp[s]) B r2 r3;simp[execOp,U,Instr.loadAt,A,Instr.sureAddr,this,Result.andThen]
  .have⟨y,y1,W⟩:=JY g n hn;rw[aa6 y1]at W;cases W
 split at h<;>try (cases h;done)
 .rename_i k q d i e F E;split at h<;>try (cases h;done)
  simp only[kd,qf5,kh]at h;obtain⟨v,⟨xs,l,g⟩,rfl,rfl,rfl⟩:=h;have⟨b,S,A⟩:=hx _ e;have⟨Z,s,V,r⟩:=EL J S l M;have⟨z,r1,r2,r3⟩:=E9 g V;refine⟨rfl,λK Q X=>zD (v:=z) (w':=w) ?_ (X W0 ok0 β w z (J.grow ⟨rfl,rfl,rfl,qS _,λ_ _ _=>rfl⟩) r1 ot J.FK (λn hn=>by have⟨y,y1,W⟩:=JY g n hn;exact Z y y1 n W) ot)⟩;have:=uJ (P:=P) (w:=w) (b:=b) (q:=q) F E (V.length.trans (mJ _ _ _ l).1) (λj v N=>(r j v N).1) r2 r3;simp[execOp,U,Instr.loadAt,A,Instr.sureAddr,this,Result.andThen]
 .rename_i cs q d i e F E;split at h<;>try (cases h;done)
  rename_i ab;simp only[kd,kh]at h;obtain⟨v,g,rfl,rfl,rfl⟩:=h;have⟨b,G,A,S,r⟩:=hx _ e;refine⟨rfl,I F E oB A (λj y f=>?_) g⟩;rw[qb4]at f;split at f
  .rw[ja3]at f;have:=r _ _ f;rwa [<-qd6]at this
  .cases f
 .rename_i k q d i e F E;split at h<;>try (cases h;done)
  rename_i el n es hg;split at h<;>try (cases h;done)
  rename_i r;have ad:=r.2;have O:∀v,(p8 es q i.size).bind (mkA (aggB d))=some v->u=⟨some v,[],[(k+1,0)]⟩->Comes P Wb okb W0 ok0 β a w σL o u:=λv N eu=>by
   subst eu;have⟨xs,l,g⟩:=qf5.1 N;unfold p8 at l;split at l<;>try (cases l;done)
   rename_i ae;simp only[qk]at l;subst l;have hL:=(J.rep (k+1,0) _ (λe=>by have e:k+1=1000001:=e;omega) ((M (k+1,0) ot).trans hg)).2;have Y:=hL;have⟨b,cs,c,m,_⟩:=hL;have⟨b0,A,S⟩:=hx _ e;obtain rfl:=S b m.1;refine I F E (by rw[qc5,ka5];omega) A (λj y f=>?_) g;rw[qb4]at f;split at f
   .rw[ja3]at f;exact Y.cells m.1 f
   .cases f
  unfold aar at h;split at h
  .simp only[kd,kh]at h;obtain⟨v,N,rfl,rfl,rfl⟩:=h;exact⟨rfl,O v N rfl⟩
  .simp only[qk,kh]at h;obtain⟨rfl,rfl,rfl⟩:=h;exact⟨rfl,O _ (aa (true,_) (js.2 rfl)) rfl⟩
def ZN(b:Nat)(w:bx):∀(vs:bk) (o:Nat),Zp (w.setCells b o vs) b=Zp w b:=λvs=>by
 induction vs generalizing w with
 | nil=>intro o;rfl
 | cons v r f =>
  intro o;rw[World.setCells,f];unfold Zp;simp only[World.setCell,ux]
  cases h:w.heap[b]? with
  | none=>simp
  | some x =>
   simp only[if_true,qh0];cases x<;>first|rfl|(rename_i cs e d;have⟨a,c⟩:=d;rcases a with _|a<;>rcases c with _|c<;>simp)
def RJ{n:Nat} : ∀{es:List bd},(∀r∈es,r.length=n)->es.flatten.length=es.length*n
 | [],_=>ot
 | r::es,h=>by rw[List.flatten_cons,qT,RJ (λr a=>h r (by simp[a])),h r ot,jt,ja1];omega
def Z4{w:bx}{b m:Nat}{e:TypeId}(h:Zp w b=some (m,e)):∃cs,w.heap[b]?=some (.cells cs e (0,0))/\cs.size=m:=by
 unfold Zp at h;split at h
 .rename_i cs c a;simp only[qk,kh]at h;obtain⟨rfl,rfl⟩:=h;exact⟨cs,a,rfl⟩
 .cases h
def aaL[pq](d:Inv Wb okb W0 ok0 ds nt β a w σL){k b q:Nat}{M:List Loc}(vs:bk)(hb:β k=some b)(y:W0.heap.size<=b)(v:∀j,j<vs.length->k<1000000->(k+1,q+j)∈M)(u:2000000<=k->(k+1,0)∈M):Dc σL W0 ok0 β w W0 ok0 β (w.setCells b q vs) M where
 nk:=d.nk
 gr:=by have⟨z,A,B⟩:=wm b vs q w;exact⟨z.trans d.gr.os,A.trans d.gr.tape,B.trans d.gr.output,by rw[setCells_size];exact d.gr.size,λi r _=>(o7 b i od _ _ _).trans (d.gr.block i r ot)⟩
 new:=λk b e=>by rw[setCells_size];exact d.new k b e
 inj:=d.inj
 sub:=λ_ _ _ e=>e
 fresh:=λ_ _ e=>.inl e
 keep:=⟨by rw[setCells_size];exact qS _,λc x l=>⟨l,λf=>qt (o7 b c (λe=>by
  subst e;rcases l with h|h
  .omega
  .exact h.2 k hb) _ _ _)⟩⟩
 Kk:=λo c g e s=>⟨e,o7 b c (λm=>by subst m;obtain rfl:=d.inj o k c e hb;exact s (u g)) _ _ _⟩
 alive:=λn _ c e=>⟨e,by
  by_cases m:c=b
  .subst m;exact ZN _ _ _ _
  .exact qc (o7 b c m _ _ _)⟩
 own:=λo c f g e s=>by
  refine⟨World.cell?_setCells_out b _ q w ⟨c,f,none⟩ (λp _=>?_),World.frozen?_setCells b _ q w _⟩;have p:c=b:=p;subst p;obtain rfl:o=k:=d.inj o k c e hb;show f<q\/q+_<=f;rcases jf5 f q with h|h
  .exact .inl h
  .rcases jf5 f (q+vs.length)with t|t
   .exfalso;apply s;have:=v (f - q) od g;rwa [show q+(f - q)=f by omega]at this
   .exact .inr t
def A1.Tg{A:A1}{x:X}(a:x∈A.xs){n:Nat}(hn:n∈x.keys):n∈A.keys:=by
 cases A with
 | one z=>simp only[A1.xs,js]at a;subst a;exact hn
 | agg b=>simp only[A1.keys,qc1];exact⟨x,a,hn⟩
def TP[pq](U:Inv Wb okb W0 ok0 ds nt β a w σL){t:TypeId}{x y:Operand}(ho:o.op =.store t x y)(h:Dk P T C σ o=some (u,C',ob))(H:CK β (okB W0.heap.size ok0 β) a w σ o)(HK:Z6 σL σ o)(bc:∀p∈ob,p.2)(I:∀x∈u.rd,get σL x=get σ x):C'=C/\Comes P Wb okb W0 ok0 β a w σL o u:=by
 simp only[Dk,ho]at h;have W:=H x (by simp[ho,Op.operands]);have hy:=H y (by simp[ho,Op.operands])
 -- what is written
 have wr:∀{A:A1} {i:TypeInfo} {b q:Nat} {K:Act->bx->Prop} {Q:Exit->Act->bx->Prop},tC σ y=some (.of A)->P.info? t=some i->A.xs.length=i.size->A.xs.all X.plain->a.eval x =.pointer (some ⟨b,q,none⟩)->(∀j,j<A.xs.length->(w.cell? ⟨b,q+j,none⟩).isSome/\w.frozen? ⟨b,q+j,none⟩=false)->K (a.put o.dst undef) (w.setCells b q (a.eval y).cells.toList)->o.wp P a w K Q:=λ{A i b q K Q} R hi E f ex s hK=>by
  have S:=gm.cells (hy _ R) f;have O:=S.length;have ai:∀v∈(a.eval y).cells.toList,v.oneCell':=λv hv=>by
   have⟨j,B⟩:=qg3 hv;have l:j<A.xs.length:=by rw[<-O];exact (qv.1 B).1
   have⟨v',c1,c2⟩:=S.get _ _ (qn l);rw[B]at c1;simp only[qk]at c1;subst c1;exact jE c2 (kB.1 f _ (zd l))
  have au:=run_storeCells_cells (P:=P) b q (a.eval y).cells.toList 0 w (λj B=>by rw[qd3];exact (s j od).1) (λj B=>by rw[qd3];exact (s j od).2) ai;rw[qd3]at au;have ar:(execOp a.eval o).run P w =.ok .skip (w.setCells b q (a.eval y).cells.toList):=by simp[execOp,ho,Instr.storeAt,ex,Instr.sureAddr,storeVar,run_sizeOf hi,Result.andThen,show (a.eval y).cells.size=i.size by rw[<-qh6];omega];exact by simpa[Result.andThen]using congrArg (λr=>Result.andThen r λ(_:Unit) w'=>(Result.ok Next.skip w':Result Next)) au
  unfold Oper.wp;rw[ar];exact hK
 split at h<;>try (cases h;done)
 .rename_i k q A i hd e1 R hi;split at h<;>try (cases h;done)
  rename_i hc;have⟨E,f,ad,g⟩:=hc;simp only[qk,kh]at h;obtain⟨rfl,rfl,rfl⟩:=h;have⟨b,L,ex⟩:=W _ e1;have⟨xs,h1⟩:=qg5.1 ad;have⟨_,vs,hr,N⟩:=EL U L h1 (λx W=>I x (by simp[W]));have S:=gm.cells (hy _ R) f;have O:=S.length;have bl:=hr.length.trans (mJ _ _ _ h1).1;have s:∀j,j<A.xs.length->(w.cell? ⟨b,q+j,none⟩).isSome/\w.frozen? ⟨b,q+j,none⟩=false:=λj B=>by
   have l:j<vs.length:=od
   have:=N j _ (qn l);exact⟨by rw[this.1];rfl,this.2⟩
  have ba:k<1000000:=L.2;replace L:=L.1;have aa:W0.heap.size<=b:=by
   rw[<-I (1000001,0) ot,<-I (1000001,k+1) ot]at g;have⟨v1,v2⟩:=U.FK
   cases hg:get σL (1000001,0)with
   | none=>exact (v1 hg).2 k b L
   | some v =>
    obtain⟨i,rfl,g1,gf,g2⟩:=v2 v hg;rw[hg]at g
    cases ab:get σL (1000001,k+1)with
    | none=>rw[ab]at g;simp[W9,Aj,verN]at g
    | some v' =>
     obtain⟨j,rfl,j2,j3⟩:=g2 k v' ab;rw[ab]at g;simp[W9,Aj,verN]at g;exact j3 g.symm b L
  have m:=aaL U (q:=q) (M:=(oC k q A.xs).map (·.1)) (a.eval y).cells.toList L aa (λj B _=>rF A.xs q j od) (λh=>od);refine⟨rfl,λK Q hK=>wr R hi E f ex s ?_⟩;have ah:∀x∈A.xs,∀n∈x.keys,(get σL (n+1,0)).isSome:=λx W n F=>HK y (by simp[ho,Op.operands]) _ R n (A1.Tg W F);refine hK W0 ok0 β _ undef m (fI.v _) (λz v hz _ a'=>?_) (U.FK.skip (λz hz=>?_)) (λn F=>by cases F) (λz v hz n F=>?_)
  .obtain⟨j,c,rfl,B,rfl⟩:=oD _ _ _ _ hz;have l:j<(a.eval y).cells.toList.length:=by rw[O];exact (qv.1 B).1
   have⟨v',c1,c2⟩:=S.get _ _ B;refine⟨b,v',c,⟨L,ba⟩,rfl,?_,?_,jm.u6 m.keep m.sub _ _ (λn F=>m.alive n (ah c (zj B) n F)) c2⟩
   .rw[World.cell?_setCells_in b _ q w (λj B=>(s j od).1) j l];rw[qn l]at c1;exact c1
   .rw[World.frozen?_setCells];exact (s j od).2
  .simp only[ud]at hz;obtain⟨⟨y1,y2⟩,hz,rfl⟩:=hz;obtain⟨j,c,rfl,_,_⟩:=oD _ _ _ _ hz;show k+1≠1000001;omega
  .obtain⟨j,c,rfl,B,rfl⟩:=oD _ _ _ _ hz;exact get_mono _ _ _ (.inl (ah c (zj B) n F))
 .rename_i k q A i hd e1 R hi;split at h<;>try (cases h;done)
  rename_i el n Z hg;split at h<;>try (cases h;done)
  rename_i hc;have⟨E,az,f,bb,bh⟩:=hc;simp only[qk,kh]at h;obtain⟨rfl,rfl,rfl⟩:=h;have hq:q+i.size<=Z.length*n:=bc (true,_) (js.2 rfl);have hL:=(U.rep (k+1,0) _ (λe=>by have e:k+1=1000001:=e;omega) ((I (k+1,0) ot).trans hg)).2;have ay:=hL;have⟨b,cs,c,h3,J,N,ae,aC,F,aq,_⟩:=hL;have⟨b0,ex,L⟩:=W _ e1;obtain rfl:=L b h3.1;have S:=gm.cells (hy _ R) f;have O:=S.length;have bm:Z.length*n<=cs.size:=by rw[N];exact qh1 _ ae
  have s:∀j,j<A.xs.length->(w.cell? ⟨b,q+j,none⟩).isSome/\w.frozen? ⟨b,q+j,none⟩=false:=λj B=>by
   have : q+j<cs.size:=od
   exact⟨by simp[World.cell?,J,this],by simp[World.frozen?,J]⟩
  have aa:W0.heap.size<=b:=(U.FK.1 ((I (1000001,0) ot).trans (qa4.1 bb))).2 k b h3.1;have m:=aaL U (q:=q) (M:=[(k+1,0)]) (a.eval y).cells.toList h3.1 aa (λj B h=>od) (λh=>ot);have bf:=RJ aq;refine⟨rfl,λK Q hK=>wr R hi E f ex s ?_⟩;refine hK W0 ok0 β _ undef m (fI.v _) (λz v hz _ a'=>?_) (U.FK.skip (λz hz=>?_)) (λn F=>by cases F) (λz v hz n F=>?_)
  .simp only[js,kh]at hz;obtain⟨rfl,rfl⟩:=hz;have⟨Y,q1,q2⟩:=Z4 ((ZN b w (a.eval y).cells.toList q).trans (show Zp w b=some (cs.size,el) by simp[Zp,J]));have V:(Z.flatten.take q++(A.xs.map X.toD++Z.flatten.drop (q+(A.xs.map X.toD).length))).length=Z.length*n:=by simp only[qT,qc5,ka5,qf3];omega
   refine⟨rfl,b,Y,c,h3,q1,q2.trans N,by rw[aag,nM];exact ae,aC,F,λr hr=>?_,λi2 r j x h4 h5=>?_⟩
   .have⟨i2,aO⟩:=qg3 hr;exact (uU n _ _ V i2 r aO).1
   .have G:=(uU n _ _ V i2 r h4).2 j x h5;have D:∀u,(w.setCells b q (a.eval y).cells.toList).cell? ⟨b,i2*n+j,none⟩=some u->Y[i2*n+j]?=some u:=λu hu=>by simpa[World.cell?,q1]using hu
    generalize i2*n+j=p at G D;have ax:∀x,Z.flatten[p]?=some x->(p<q\/q+A.xs.length<=p)->∃u,Y[p]?=some u/\fI (okB W0.heap.size ok0 β) (w.setCells b q (a.eval y).cells.toList) x u:=λx W hp=>by have⟨u,u1,u2⟩:=ay.cells h3.1 W;exact⟨u,D u (by rw[World.cell?_setCells_out b _ q w ⟨b,p,none⟩ (λ_ _=>by show p<q\/_<=p;omega)];exact u1),u2.keep m.keep⟩
    rcases jf5 p q with hp|hp
    .rw[jz vc,qb4,if_pos hp]at G;exact ax x G (.inl hp)
    .have e0:(Z.flatten.take q).length=q:=by rw[qc5];omega
     rw[ju od]at G;rw[e0]at G;rcases jf5 p (q+A.xs.length)with aj|aj
     .rw[jz oB,qb7,kd]at G;obtain⟨z,z1,rfl⟩:=G;have⟨u,u1,u2⟩:=S.get _ _ z1;have hz:=kB.1 az _ (zj z1);have l:p - q<(a.eval y).cells.toList.length:=by omega
      refine⟨u,D u ?_,?_⟩
      .have:=World.cell?_setCells_in b _ q w (λj B=>(s j od).1) (p - q) l;rw[show q+(p - q)=p by omega]at this;rw[this];rw[qn l]at u1;exact u1
      .cases z with
       | d y=>exact fI.keep u2 m.keep
       | _=>cases hz
     .rw[ju oB,ja3]at G;simp only[qf3]at G;rw[show q+A.xs.length+(p - q - A.xs.length)=p by omega]at G;exact ax x G (.inr aj)
  .simp only[qc3,jb3,js]at hz;subst hz;show k+1≠1000001;omega
  .simp only[js,kh]at hz;obtain⟨rfl,rfl⟩:=hz;cases F
def flat_get{n:Nat}(z:List X)(c:z.length=n):∀(k i:Nat),i<k*n->(List.replicate k z).flatten[i]?=z[i % n]?
 | 0,i,h=>od
 | k+1,i,h=>by
  rw[List.replicate_succ,List.flatten_cons,List.getElem?_append];split
  .rename_i a;rw[c]at a;rw[je3 a]
  .rename_i b;rw[c]at b|-;rw[ja1]at h;rw[flat_get z c k (i - n) od,<-Nat.mod_eq_sub_mod od]
def SF[pq](l:Inv Wb okb W0 ok0 ds nt β a w σL){d n:Nat}{s:TypeId}{es:List bd}{w':bx}{v:cg}{K:cg->bx->Prop}(H:get σL (mH d+1,0)=none)(I:get σL (1000001,0)=none)(z:cm w w' none)(aa:QH (okB W0.heap.size ok0 β) w w' s n es v)
 (hK:∀O p β' w' N,Dc σL W0 ok0 β w O p β' w' [(mH d+1,0)]->iZ β' (okB O.heap.size p β') w' (.of (.one (.g (mH d) n es.length))) N->(∀x v,(x,v)∈[((mH d+1,0),AV.vT s n es)]->x.1≠1000001->∀a',EH β' (okB O.heap.size p β') a' w' x v)->qp Wb okb O p β' ([((mH d+1,0),AV.vT s n es)]++σL)->zl ([((mH d+1,0),AV.vT s n es)]++σL) (.of (.one (.g (mH d) n es.length)))->(∀x v,(x,v)∈[((mH d+1,0),AV.vT s n es)]->zl ([((mH d+1,0),AV.vT s n es)]++σL) v)->K N w'):K v w':=by
 have⟨T,L⟩:=l.FK.1 I;obtain⟨b,cc,rfl,F,Z,S,hL⟩:=aa;have⟨A,cs,c2,U,t,Y,G,W,R,J,B⟩:=hL;have V:A=b:=by simpa using U.1.symm
 subst V;have E:A<w'.heap.size:=(qq.1 t).1
 let β2:Nat->Option Nat:=λk=>if k=mH d then some A else β k
 have hβd:β (mH d)=none:=by
  cases e:β (mH d)with
  | none=>rfl
  | some b=>have:=l.dom _ b e;rw[H]at this;cases this
 have β1:∀k b,β2 k=some b->(k=mH d/\b=A)\/β k=some b:=λk b h=>by
  simp only[β2]at h;split at h
  .rename_i P;simp only[qk]at h;exact .inl ⟨P,h.symm⟩
  .exact .inr h
 have β3:∀k b,β k=some b->β2 k=some b:=λk b h=>by simp only[β2];rw[if_neg (λP=>by subst P;rw[hβd]at h;cases h)];exact h
 have c:∀k b,β k=some b->b<w.heap.size:=λk b h=>(l.new k b h).2;have m:Dc σL W0 ok0 β w W0 ok0 β2 w' [(mH d+1,0)]:={
  gr:=gtr l.gr z
  new:=λk b h=>by
   rcases β1 k b h with⟨_,rfl⟩|h
   .exact⟨.inl (km l.gr.size F),E⟩
   .exact⟨(l.new k b h).1,ki (c k b h) z.size⟩
  inj:=λk k' b h Q=>by
   rcases β1 k b h with⟨rfl,rfl⟩|h<;>rcases β1 k' _ Q with⟨rfl,P⟩|Q
   .rfl
   .have:=c _ _ Q;omega
   .have:=c _ _ h;omega
   .exact l.inj k k' b h Q
  sub:=λk b _ h=>β3 k b h
  fresh:=λk b h=>by
   rcases β1 k b h with⟨rfl,_⟩|h
   .right;simp
   .exact .inl h
  keep:=⟨z.size,λb C o=>⟨by
   rcases o with o|o
   .exact .inl o
   .refine .inr ⟨o.1,λk h=>?_⟩;rcases β1 k b h with⟨_,rfl⟩|h
    .omega
    .exact o.2 k h,λq=>qt (z.block b C ot)⟩⟩
  own:=λk b q _ h _=>⟨qt (z.block b (c k b h) ot),jd5 (z.block b (c k b h) ot)⟩
  Kk:=λk b _ h _=>⟨β3 k b h,z.block b (c k b h) ot⟩
  alive:=λn R b h=>by
   rcases β1 n b h with⟨rfl,_⟩|h
   .rw[H]at R;cases R
   .exact⟨h,qc (z.block b (c n b h) ot)⟩
  nk:=by simp only[β2];rw[if_neg (by unfold mH;omega)];exact l.nk }
 have hβg:β2 (mH d)=some A:=by simp[β2]
 refine hK W0 ok0 β2 w' _ m ⟨A,cc,rfl,Z,λb C=>by rw[hβg]at C;simp only[qk]at C;subst C;exact⟨rfl,s,S⟩⟩ (λy v M ab a'=>?_) ⟨λ_=>⟨T,λk b h=>?_⟩,λv hv=>?_⟩ (λk hk=>?_) (λy v M k hk=>?_)
 .simp only[js,kh]at M;obtain⟨rfl,rfl⟩:=M;refine⟨rfl,A,cs,c2,⟨hβg,by unfold mH;omega⟩,t,Y,G,W,R,J,λi r j x h1 h2=>?_⟩;have⟨u,u1,u2⟩:=B i r j x h1 h2;refine⟨u,u1,u2.keep ⟨qS _,λb C o=>⟨?_,λ_=>rfl⟩⟩⟩;rcases o.1 with f|f
  .rcases f with f|f
   .exact .inl f
   .refine .inr ⟨f.1,λk h=>?_⟩;rcases β1 k b h with⟨_,rfl⟩|h
    .exact o.2 rfl
    .exact f.2 k h
  .refine .inr ⟨km l.gr.size f,λk h=>?_⟩;rcases β1 k b h with⟨_,rfl⟩|h
   .exact o.2 rfl
   .have:=c k b h;omega
 .rcases β1 k b h with⟨_,rfl⟩|h
  .exact km l.gr.size F
  .exact L k b h
 .rw[get_skip [((mH d+1,0),AV.vT s n es)] _ _ (by simp[mH];omega),I]at hv;cases hv
 .simp only[jb5,AV.keys,A1.keys,X.keys,js]at hk;subst hk;exact get_mono _ _ _ (.inr ot)
 .simp only[js,kh]at M;obtain⟨rfl,rfl⟩:=M;cases hk
def TN[pq](O:Inv Wb okb W0 ok0 ds nt β a w σL){t:TypeId}{len:Nat}{f:Array (Nat×Operand)}(N:o.op =.buildSlice t len f)(h:Dk P T C σ o=some (u,C',ob))(H:CK β (okB W0.heap.size ok0 β) a w σ o)(ad:∀x∈u.rd,get σL x=get σ x)(R:∀x∈u.mem.map (·.1),get σL x=get σ x):Comes P Wb okb W0 ok0 β a w σL o u:=by
 simp only[Dk,N]at h;split at h<;>try (cases h;done)
 rename_i M ht;split at h<;>try (cases h;done)
 rename_i c z ps hi hz hp;split at h<;>try (cases h;done)
 rename_i hb;have⟨bb,S,F⟩:=hb;split at h<;>try (cases h;done)
 rename_i xs hf;split at h<;>try (cases h;done)
 rename_i ae;have ay:c.zero=some z:=by rw[hi]at hz;exact hz
 have ar:=partsO_rep (a:=a) (β:=β) (ok:=okB W0.heap.size ok0 β) (w:=w) _ _ hp (λx hx=>H x (by simp[N,Op.operands]at hx|-;exact hx));have aa:dU (jm β (okB W0.heap.size ok0 β) w) (ofV z).xs z.cells.toList:=yK;have az:z.cells.size=c.size:=by have:=aa.length;rw[qh6]at this;omega
 have I:0<c.size:=Nat.pos_of_ne_zero (λe=>by rw[e]at S;simp at S);have h0:dU (jm β (okB W0.heap.size ok0 β) w) (List.replicate len (ofV z).xs).flatten ((Array.range (len*c.size)).map (z.cells[· % z.cells.size]!)).toList:=by
  refine dU.of (by simp[F]) (λi x v B E=>?_);have Z:i<len*c.size:=by have:=(qv.1 B).1;simpa[F]using this
  rw[flat_get _ F _ _ Z]at B;have⟨v',A,L⟩:=aa.get _ _ B;rw[qg6]at A;simp only[qg6,Array.getElem?_map,Array.getElem?_range,Z,if_true,qh0,qk,az]at E;rw[<-E,getElem!_def,A];exact L
 have⟨cs,f1,f2⟩:=Be _ _ _ _ _ _ ar h0 hf;have W:∀(ps:List (Nat×List X)) (ys G:List X),xB (λi=>some (i*c.size,c.size)) ys ps=some G->G.length=ys.length:=λps=>by
  induction ps with
  | nil=>intro ys G e;simp only[xB,qk]at e;rw[e]
  | cons p ps ih =>
   intro ys G e;have⟨i,zs⟩:=p;simp only[xB]at e;split at e
   .rename_i hc;rw[ih _ _ e];simp;omega
   .cases e
 have au:xs.length=len*c.size:=by rw[W _ _ _ hf];simp[F]
 have U:cs.size=len*c.size:=by have:=f2.length;rw[qh6]at this;omega
 have V:=jg4 w (.cells cs M) none;have m:=O.grow V;have J:(execOp a.eval o).run P w =.ok (.value (.o (w.heap.size) len len)) (w.alloc (.cells cs M)):=by
  have aC:(zeroValue M).run P w =.ok z w:=by unfold zeroValue;rw[qa7,run_typeInfo _ hi];simp[Result.andThen,ay]
  simp only[execOp,N,qa7,Instr.buildSlice,qc2 ht,Result.andThen,run_sizeOf hi];rw[oa];simp only[jd6,qa7,Sem.run_ite];rw[oa];simp only[aC,Result.andThen,Array.toList_map];rw[show (List.map (λx=>(x.1,a.eval x.2)) f.toList)=(f.toList.map λ(i,x)=>(i,a.eval x)) from rfl,f1];rfl
 have q:(w.alloc (.cells cs M)).heap[w.heap.size]?=some (.cells cs M):=by show (w.heap.push _)[w.heap.size]?=_;simp
 have l:(xs.map X.toD).length=len*c.size:=by simp[au]
 have Y:len<=maxLen:=by have : len<=len*c.size:=Nat.le_mul_of_pos_right _ I;unfold maxLen;omega
 have g:∀(i:Nat) (r:bd) (j:Nat) (x:D),(chunk c.size len (xs.map X.toD))[i]?=some r->r[j]?=some x->∃v,cs[i*c.size+j]?=some v/\fI (okB W0.heap.size ok0 β) w x v:=λi r j x B E=>by
  have hx:=(uU _ _ _ l i r B).2 j x E;simp only[qb7,kd]at hx;obtain⟨y,hy,rfl⟩:=hx;have⟨v,A,L⟩:=f2.get _ _ hy;rw[qg6]at A;have ax:y.clean:=kB.1 ae _ (zj hy)
  cases y with
  | d z=>exact⟨v,A,L⟩
  | _=>cases ax
 split at h
 .rename_i d hd;split at h<;>try (cases h;done)
  rename_i hc;have⟨bc,hk,aq⟩:=hc;simp only[qk,kh]at h;obtain⟨rfl,rfl,rfl⟩:=h;refine λK Q hK=>zD J (SF O (K:=λv w=>K (a.put o.dst v) w) ((R _ ot).trans (qa4.1 hk)) ((ad _ ot).trans (qa4.1 aq)) V ⟨w.heap.size,len,by rw[nM],qS _,by rw[nM];exact qS _,by rw[Zp,q];simp only[U],w.heap.size,cs,len,⟨rfl,qS _⟩,q,U,by rw[nM];exact qS _,Y,I,λr hr=>?_,λi r j x B E=>?_⟩ (λW1 aO β' w' ba m hr hm hv aj ai=>hK W1 aO β' w' ba m hr hm hv aj ai))
  .have⟨i,ah⟩:=qg3 hr;exact (uU _ _ _ l i r ah).1
  .have⟨v,A,L⟩:=g i r j x B E;exact⟨v,A,L.keep ⟨m.keep.1,λb hb N=>⟨⟨.inl (m.keep.2 b hb N).1,od⟩,(m.keep.2 b hb N).2⟩⟩⟩
 .simp only[qk,kh]at h;obtain⟨rfl,rfl,rfl⟩:=h;refine λK Q hK=>zD J (hK W0 ok0 β _ _ m ?_ ot O.FK (λn hn=>by cases hn) ot);have ab:fI (okB W0.heap.size ok0 β) (w.alloc (.cells cs M)) (.s c.size (chunk c.size len (xs.map X.toD))) (.o (w.heap.size) (chunk c.size len (xs.map X.toD)).length len):=by
   refine .s (λi j=>(cs[i*c.size+j]?).getD undef) (by rw[nM];exact qS _) (by rw[nM];exact Y) (λi r hr=>(uU _ _ _ l i r hr).1) (λi r j x B E=>?_) (λi r j x B E=>?_)<;>have⟨v,A,L⟩:=g i r j x B E<;>rw[A]
   .refine⟨w.heap.size,0,rfl,.inr ⟨O.gr.size,λk e=>?_⟩,by simp only[World.cell?,q,qa2];rw[A];rfl⟩;have:=(O.new k _ e).2;omega
   .exact L.keep m.keep
  rw[nM]at ab;exact ab
def LZ{ok:br}{n:Nat}{es:List bd}{l:bj}{len c:Nat}(h:fI ok w (.s n es) (.slice l len c))(hn:0<n):len=es.length/\(l=none->es=[])/\∃us:bk,us.length=es.length*n/\(∀q,l=some q->∀j u,us[j]?=some u->w.cell? (q.add j)=some u) /\
 ∀(i:Nat) (r:bd) (j:Nat) (x:D),es[i]?=some r->r[j]?=some x->∃u,us[i*n+j]?=some u/\fI ok w x u:=by
 have⟨B,H,U,e,I,G,p,y⟩:=fH h;simp only[kl]at e;obtain⟨rfl,rfl,rfl⟩:=e;have k:∀i (d:i<es.length),es[i].length=n:=λi d=>p i _ (qn d);refine⟨rfl,λe=>?_,(List.range (es.length*n)).map λq=>U (q / n) (q % n),ot,λq e j u v=>?_,λi r j x m z=>?_⟩
 .cases es with
  | nil=>rfl
  | cons r rs =>
   have A:r.length=n:=p 0 r rfl;have F:0<r.length:=od
   have⟨⟨b,o,f,_⟩,_⟩:=y 0 r 0 r[0] rfl (qn F);rw[e]at f;cases f
 .have g:j<es.length*n:=by have:=(qv.1 v).1;simpa using this
  have d:j / n<es.length:=Nat.div_lt_of_lt_mul (by rw[jc1];exact g);have G:=Nat.mod_lt j hn;have A:=k _ d;have⟨⟨b,o,f,_,a⟩,_⟩:=y (j / n) _ (j % n) _ (qn d) (qn od);simp[g]at v;rw[e]at f;simp only[qk]at f;subst f;rw[add_eq,<-v,<-a,Nat.div_add_mod' j n]
 .have d:i<es.length:=(qv.1 m).1;have A:r.length=n:=p i r m;have g:j<n:=by have:=(qv.1 z).1;omega
  have t:i*n+j<es.length*n:=by have : (i+1)*n<=es.length*n:=qh1 _ d;rw[ja1]at this;omega
  refine⟨U i j,?_,(y i r j x m z).2⟩;have C:(i*n+j) / n=i:=by rw[jc1,Nat.mul_add_div hn,Nat.div_eq_of_lt g];rfl
  have E:(i*n+j) % n=j:=by rw[jc1,Nat.mul_add_mod,je3 g]
  simp[t,C,E]
def Uq{n:Nat}{rows:List bd}{l:Addr}{k m:Nat}(z:fI (okB W0.heap.size ok0 β) w (.s n rows) (.slice (some l) k m))(b:0<n)(h:nC rows){a:bk}(C:a.length=rows.length*n)(A:∀(i:Nat) (r:bd) (j:Nat) (x:D),rows[i]?=some r->r[j]?=some x->∃u,a[i*n+j]?=some u/\fI (okB W0.heap.size ok0 β) w x u):∀u∈a,u.oneCell':=λu y=>by
 obtain⟨q,p,rfl⟩:=ub y;have g:q<rows.length*n:=od
 have e:q / n<rows.length:=Nat.div_lt_of_lt_mul (by rw[jc1];exact g);have⟨_,_,_,_,_,_,f,_⟩:=fH z;have t:=f _ _ (qn e);have B:=Nat.mod_lt q b;have⟨v,c,o⟩:=A (q / n) _ (q % n) _ (qn e) (qn od);rw[Nat.div_add_mod' q n,qn p]at c;simp only[qk]at c;rw[c];refine jE (β:=β) (x:=.d (rows[q / n][q % n]'od)) o ?_;have:=kB.1 h _ (zd e);exact kB.1 this _ (zd _)
def GN{P:Program}{w:bx}{t ty e:TypeId}{b:TypeInfo}(g:P.underlying t=some (.slice e))(hi:P.info? e=some b)(a:bj)(n c:Nat)(d:bj)(f:Nat)(h:n<=c):(Builtin.append_ #[t,t] ty #[.slice a n c,.slice d 0 f]).run P w =.ok (.slice a n c) w:=by
 cases a<;>cases d<;>simp[Builtin.append_,qc2 g,sizeOf,typeInfo,hi,Builtin.lenOf,Builtin.firstCells,h,storeCells,loadCells,loadCellsFrom,Result.andThen]
def UR{ok:br}{n:Nat}{xs ys:List bd}{us vs:bk}(g:us.length=xs.length*n)(h:∀(i:Nat) (r:bd) (j:Nat) (x:D),xs[i]?=some r->r[j]?=some x->∃u,us[i*n+j]?=some u/\fI ok w x u)(k:∀(i:Nat) (r:bd) (j:Nat) (x:D),ys[i]?=some r->r[j]?=some x->∃u,vs[i*n+j]?=some u/\fI ok w x u):∀(i:Nat) (r:bd) (j:Nat) (x:D),(xs++ys)[i]?=some r->r[j]?=some x->∃u,(us++vs)[i*n+j]?=some u/\fI ok w x u:=λi y j x b d=>by
 by_cases e:i<xs.length
 .rw[jz e]at b;have⟨v,a,c⟩:=h i y j x b d;exact⟨v,by rw[jz (qv.1 a).1];exact a,c⟩
 .rw[ju od]at b;have⟨v,a,c⟩:=k (i - xs.length) y j x b d;refine⟨v,?_,c⟩;have f:i*n+j=us.length+((i - xs.length)*n+j):=by
   rw[g,Nat.sub_mul];have:=qh1 n (Nat.not_lt.1 e);omega
  rw[f,ju od,Nat.add_sub_cancel_left];exact a
def L2.get{α β:Type}{R:α->β->Prop} : ∀{l:List α}{r:List β},L2 R l r->l.length=r.length/\∀(i:Nat) (y:β),r[i]?=some y->∃x,l[i]?=some x/\R x y
 | [],[],_=>⟨rfl,λi y h=>by simp at h⟩
 | x::l,y::r,⟨a,b⟩=>by
  have⟨e,k⟩:=L2.get b;refine⟨by simp[e],λi z hz=>?_⟩
  cases i with
  | zero=>simp only[kA,qk]at hz;subst hz;exact⟨x,rfl,a⟩
  | succ i=>have⟨u,c,d⟩:=k i z (by simpa using hz);exact⟨u,by simpa using c,d⟩
def aax{ok:br}{x y:D}{v:cg}(h:dLe x y)(b:fI ok w x v):fI ok w y v:=by
 rcases h with rfl|⟨rfl,n,f,rfl⟩
 .exact b
 .obtain⟨a,c,U,rfl,d,e,_⟩:=fH b;exact .s U d e ot ot ot (λh=>absurd h f)
def Z8[pq](B:Inv Wb okb W0 ok0 ds nt β a w σL){s x:Operand}{t e:TypeId}(V:o.op =.call ⟨.builtin .append,#[s,x],#[t,t]⟩)(hu:P.underlying t=some (.slice e)){A:List Nat}{n l n':Nat}{es rows:List bd}(h:Qu P T σ o C e A n l es n' rows=some (u,C',ob))(cb:∀p∈ob,p.2)(ck:∀x∈u.rd,get σL x=get σ x)(aO:∀x∈u.mem.map (·.1),get σL x=get σ x)
 (hs:(A=[]/\es=[]/\l=0/\a.eval s =.n0)\/∃k b c e',A=[k]/\a.eval s =.o b l c/\β k=some b/\EX β (okB W0.heap.size ok0 β) w k e n es/\Zp w b=some (c*n,e')) (hx:fI (okB W0.heap.size ok0 β) w (.s n' rows) (a.eval x)):Comes P Wb okb W0 ok0 β a w σL o u:=by
 unfold Qu at h;split at h<;>try (cases h;done)
 rename_i d f z cE W hz;split at h<;>try (cases h;done)
 rename_i hc;obtain⟨rfl,rfl,cC,I,cG,bq,ct⟩:=hc;simp only[qk,kh]at h;obtain⟨rfl,rfl,rfl⟩:=h;have hE:=cb (true,_) (List.mem_cons_self ..);have hO:=cb (true,_) (jg0 _ (js.2 rfl));simp only at hE hO;generalize aaq T (mH d) (es.take l++rows)=E at *;have ah:=hE.get;have⟨⟨cL,ar⟩,cv,b1,b2⟩:=hO;have cA:f.zero=some z:=by rw[W]at hz;exact hz
 have⟨ax,cx,Ux,e3,_⟩:=fH hx;rw[e3]at hx;have⟨_,cr,cf,ln,cn,rn⟩:=LZ hx I
 cases ax with
 | none=>exact absurd (cr rfl) ar
 | some ax =>
  have ch:=Uq hx I cv ln rn;have⟨_,_,_,_,_,_,cw,_⟩:=fH hx;have ab:get σL (1000001,0)=none:=(ck _ ot).trans (qa4.1 ct);have⟨cj,J⟩:=B.FK.1 ab;have bp:get σL (mH d+1,0)=none:=(aO _ ot).trans (qa4.1 bq);have hβd:β (mH d)=none:=by
   cases e:β (mH d)with
   | none=>rfl
   | some b=>have:=B.dom _ b e;rw[bp]at this;cases this
  have bm:(es.take l).length=l:=vc
  have ai:(∃N:bk,w.ownsRow W0.heap.size e f.size (a.eval s) l N/\(∀(i:Nat) (r:bd) (j:Nat) (x:D),(es.take l)[i]?=some r->r[j]?=some x->∃u,N[i*f.size+j]?=some u/\fI (okB W0.heap.size ok0 β) w x u))/\(∀b,(a.eval s).ownBlock=some b->∃k∈A,β k=some b)/\(∀k∈A,2000000<=k/\β k=(a.eval s).ownBlock)/\∀r∈es.take l,r.length=f.size:=by
   rcases hs with⟨rfl,rfl,rfl,ae⟩|⟨k,b,c,e',rfl,ae,hk,hL,hS⟩
   .rw[ae];exact⟨⟨[],qg1 _ _ _ _,ot⟩,oT,ot,ot⟩
   .have⟨b',cs,c',h3,H,O,cH,aq,_,M,aj⟩:=hL;have cl:b'=b:=by have:=h3.1;rw[hk]at this;simpa using this.symm
    subst cl;have cp:c'=c:=by simp only[Zp,H,qk,kh]at hS;exact Nat.eq_of_mul_eq_mul_right I (O.symm.trans hS.1)
    subst cp;rw[ae];have cJ:l*f.size<=cs.size:=by rw[O];exact qh1 _ od
    refine⟨⟨cs.toList.take (l*f.size),⟨by rw[qc5,qh6];omega,.inr ⟨b',c',cs,rfl,J k b' hk,H,od,aq,O,rfl⟩⟩,λi r j x h1 S=>?_⟩,λb2 ba=>⟨k,ot,by simp[Value.ownBlock]at ba;rw[<-ba];exact hk⟩,λk2 bl=>by simp only[js]at bl;subst bl;exact⟨h3.2,hk⟩,λr hr=>M r (qe2 hr)⟩;have bf:i<l:=by have:=(qv.1 h1).1;omega
    rw[qb4,if_pos bf]at h1;have⟨u,u1,u2⟩:=aj i r j x h1 S;have cI:j<f.size:=by rw[<-M r (zj h1)];exact (qv.1 S).1
    have : (i+1)*f.size<=l*f.size:=qh1 _ bf;rw[ja1]at this;exact⟨u,by rw[qb4,oc];simpa using u1,u2⟩
  have⟨⟨N,ca,ro⟩,Z,au,M⟩:=ai;have⟨g,ad,w',cd,cc,L,R,bc⟩:=run_append_lies (P:=P) w t o.type W0.heap.size e f z f.size f.bytes hu W cA rfl rfl cC I (a.eval s) l N ca ax rows.length cx cf ln (cn ax rfl) ch (jd3.2 ar) b1 b2 B.gr.size w.heap.size rfl;have cu:∀b,(a.eval s).ownBlock=some b->W0.heap.size<=b/\b<w.heap.size:=λb U=>by have⟨k,_,hk⟩:=Z b U;exact⟨J k b hk,(B.new k b hk).2⟩
  have aC:∀k b,β k=some b->k ∉ A->b≠g:=λk b U hk G=>by
   subst G;rcases R with R|R
   .have⟨k0,m0,h0⟩:=Z b R;exact hk (B.inj k k0 b U h0 ▸ m0)
   .have:=(B.new k b U).2;omega
  have blk:∀b,b<w.heap.size->(∀k∈A,β k≠some b)->w'.heap[b]?=w.heap[b]?:=λb U hk=>L.block b U (λG=>by have⟨k,m1,h1⟩:=Z b G.symm;exact hk k m1 h1)
  let β':Nat->Option Nat:=λk=>if k=mH d then some g else if k∈A then none else β k
  have β1:∀k b,β' k=some b->(k=mH d/\b=g)\/(β k=some b/\k ∉ A/\k≠mH d):=λk b h=>by
   simp only[β']at h;split at h
   .rename_i G;simp only[qk]at h;exact .inl ⟨G,h.symm⟩
   .split at h
    .cases h
    .rename_i e1 G;exact .inr ⟨h,G,e1⟩
  have β2:∀k b,β k=some b->k ∉ A->β' k=some b:=λk b h hk=>by simp only[β'];rw[if_neg (λG=>by subst G;rw[hβd]at h;cases h),if_neg hk];exact h
  have bb:W0.heap.size<=g:=by
   rcases R with R|R
   .exact (cu g R).1
   .rw[R];exact B.gr.size
  have m:Dc σL W0 ok0 β w W0 ok0 β' w' ((eF A++[((mH d+1,0),AV.vT e f.size E)]).map (λ(x:Loc×AV)=>x.1)):={
   gr:=⟨L.os.trans B.gr.os,L.tape.trans B.gr.tape,L.output.trans B.gr.output,km B.gr.size L.size,λi W _=>(blk i (ki W B.gr.size) (λk _ hk=>by have:=J k i hk;omega)).trans (B.gr.block i W ot)⟩
   new:=λk b h=>by
    rcases β1 k b h with⟨_,rfl⟩|⟨h,_⟩
    .exact⟨.inl bb,bc⟩
    .exact⟨(B.new k b h).1,ki (B.new k b h).2 L.size⟩
   inj:=λk k' b h h'=>by
    rcases β1 k b h with⟨rfl,rfl⟩|⟨h,S,_⟩<;>rcases β1 k' _ h' with⟨rfl,G⟩|⟨h',h3,_⟩
    .rfl
    .exact absurd rfl (aC _ _ h' h3)
    .exact absurd G (aC _ _ h S)
    .exact B.inj k k' b h h'
   sub:=λk b hk h=>β2 k b h (λhm=>by have:=(au k hm).1;omega)
   fresh:=λk b h=>by
    rcases β1 k b h with⟨rfl,_⟩|⟨h,_⟩
    .right;simp
    .exact .inl h
   keep:=⟨L.size,λb U V=>by
    have bh:∀k∈A,β k≠some b:=λk hk G=>by
     rcases V with V|V
     .have:=J k b G;omega
     .exact V.2 k G
    refine⟨?_,λq=>qt (blk b U bh)⟩;rcases V with V|V
    .exact .inl V
    .refine .inr ⟨V.1,λk h=>?_⟩;rcases β1 k b h with⟨_,rfl⟩|⟨h,_⟩
     .rcases R with R|R
      .have⟨k0,m0,h0⟩:=Z b R;exact bh k0 m0 h0
      .omega
     .exact V.2 k h⟩
   own:=λk b q hk h _=>by have:=blk b (B.new k b h).2 (λk2 m2 S=>by have:=B.inj k k2 b h S;have:=(au k2 m2).1;omega);exact⟨qt this,jd5 this⟩
   Kk:=λk b hk h hn=>by have Y:k ∉ A:=λhm=>hn (by simp only[qb5,xb];left;simp only[eF,List.map_map,ud];exact⟨k,hm,rfl⟩);exact⟨β2 k b h Y,blk b (B.new k b h).2 (λk2 m2 S=>Y (B.inj k k2 b h S ▸ m2))⟩
   alive:=λk hk b h=>by
    rcases β1 k b h with⟨rfl,_⟩|⟨h,Y,_⟩
    .rw[bp]at hk;cases hk
    .exact⟨h,qc (blk b (B.new k b h).2 (λk2 m2 S=>Y (B.inj k k2 b h S ▸ m2)))⟩
   nk:=by
    simp only[β'];rw[if_neg (by unfold mH;omega)];split
    .rfl
    .exact B.nk }
  have⟨cF,hh⟩:=cc;rcases hh with⟨h0,_⟩|⟨g2,cD,ay,h0,_,H,aa,aq,O,cz⟩
  .cases h0
  .simp only[kl,qk,qc7,and_true,true_and]at h0;obtain⟨rfl,rfl⟩:=h0;have hβg:β' (mH d)=some g:=by simp[β']
   have cq:(es.take l++rows).length=l+rows.length:=by rw[qT,bm]
   have az:=UR (xs:=es.take l) (ys:=rows) (by rw[ca.1,bm]) ro rn;refine λK Q hK=>zD (v:=.o g (l+rows.length) ad) (w':=w') ?_ (hK W0 ok0 β' w' _ m ?_ (λy v F ar a'=>?_) ?_ ?_ (λy v F k hk=>?_))
   .simp[execOp,V,resolve,invoke,builtin,e3,cd,Result.andThen]
   .exact⟨g,ad,rfl,aa,λb U=>by rw[hβg]at U;simp only[qk]at U;subst U;exact⟨rfl,e,by simp[Zp,H,O]⟩⟩
   .simp only[xb,js]at F;rcases F with F|F
    .simp only[eF,ud]at F;have⟨k,_,F⟩:=F;simp only[kh]at F;obtain⟨rfl,rfl⟩:=F;trivial
    .simp only[kh]at F;obtain⟨rfl,rfl⟩:=F;refine⟨rfl,g,ay,ad,⟨hβg,by unfold mH;omega⟩,H,O,by rw[<-ah.1,cq];exact aa,aq,I,λr hr=>?_,λi r j x h1 S=>?_⟩
     .have⟨i,W⟩:=qg3 hr;have⟨r',q1,q2⟩:=ah.2 i r W;rw[<-q2.get.1];rcases xb.1 (zj q1)with hr|hr
      .exact M r' hr
      .have⟨i,W⟩:=qg3 hr;exact cw i r' W
     .have⟨r',q1,q2⟩:=ah.2 i r h1;have⟨x',q3,q4⟩:=q2.get.2 j x S;have⟨u,u1,u2⟩:=az i r' j x' q1 q3;rw[<-cz]at u1;have : ay.toList[i*f.size+j]?=some u:=vJ u1;exact⟨u,by simpa using this,aax q4 (u2.keep m.keep)⟩
   .have cy:get ((eF A++[((mH d+1,0),AV.vT e f.size E)])++σL) (1000001,0)=none:=by
     rw[get_skip _ _ _ (λhm=>?_)]
     .exact ab
     .simp only[qb5,xb,qc3,jb3,js,eF,List.map_map,ud]at hm;rcases hm with⟨k,hk,G⟩|G
      .have:=(au k hk).1;simp only[Function.comp,kh]at G;omega
      .simp only[kh,mH]at G;omega
    refine⟨λ_=>⟨cj,λk b h=>?_⟩,λv hv=>?_⟩
    .rcases β1 k b h with⟨_,rfl⟩|⟨h,_⟩
     .exact bb
     .exact J k b h
    .rw[cy]at hv;cases hv
   .intro k hk;simp only[jb5,AV.keys,A1.keys,X.keys,js]at hk;subst hk;exact get_mono _ _ _ (.inr ot)
   .simp only[xb,js]at F;rcases F with F|F
    .simp only[eF,ud]at F;have⟨_,_,F⟩:=F;simp only[kh]at F;obtain⟨rfl,rfl⟩:=F;cases hk
    .simp only[kh]at F;obtain⟨rfl,rfl⟩:=F;cases hk
def P7[pq](R:Inv Wb okb W0 ok0 ds nt β a w σL){c:Call}(ho:o.op =.call c)(hc:c.callee =.builtin .append)(h:Dk P T C σ o=some (u,C',ob))(H:CK β (okB W0.heap.size ok0 β) a w σ o)(HK:Z6 σL σ o)(V:∀p∈ob,p.2)(ae:∀x∈u.rd,get σL x=get σ x)(Z:∀x∈u.mem.map (·.1),get σL x=get σ x):Comes P Wb okb W0 ok0 β a w σL o u:=by
 simp only[Dk,ho,hc]at h;split at h<;>try (cases h;done)
 rename_i s x t t' M ab;have⟨cl,args,ts⟩:=c;simp only at hc M ab;subst hc;have ha:args=#[s,x]:=by rw[<-M]
 have ca:ts=#[t,t']:=by rw[<-ab]
 subst ha ca;have Hs:=H s (by simp[ho,Op.operands,Call.operands]);have Hx:=H x (by simp[ho,Op.operands,Call.operands]);split at h
 .rename_i A hA;split at h<;>try (cases h;done)
  rename_i e n' rows hu I;split at h<;>try (cases h;done)
  rename_i hc;obtain⟨rfl,S⟩:=hc;have⟨f,S⟩:=qg5.1 S;simp only[qk,kh]at h;obtain⟨rfl,rfl,rfl⟩:=h;obtain⟨e1,rfl,hS⟩:=V (true,_) (js.2 rfl);have⟨X,cx,_,e3,_⟩:=fH (Hx _ I);have hv:∃ad n c,a.eval s =.slice ad n c/\n<=c:=by
   have hr:=Hs _ e1
   match A,hS,hr with
   | .one (.g k n l),_,⟨b0,c,h1,Y,_⟩=>exact⟨_,_,_,h1,Y⟩
   | .one (.d (.s n L)),_,hr =>
    have⟨ad,c,U,h1,Y,_⟩:=fH (show fI _ w (.s n L) _ from hr);exact⟨_,_,_,h1,Y⟩
  have⟨ad,n,c,e4,bh⟩:=hv;refine λK Q hK=>zD (v:=a.eval s) (w':=w) ?_ (hK W0 ok0 β w _ (R.grow ⟨rfl,rfl,rfl,qS _,λ_ _ _=>rfl⟩) (Hs _ e1) ot R.FK (HK s (by simp[ho,Op.operands,Call.operands]) _ e1) ot);have E:=GN (P:=P) (w:=w) (ty:=o.type) hu S ad n c X cx bh;rw[show ([]:List bd).length=0 from rfl]at e3;simp[execOp,ho,resolve,invoke,builtin,e3,e4,E,Result.andThen]
 split at h<;>try (cases h;done)
 rotate_left
 .rename_i e k n l n' rows hu J I;split at h<;>try (cases h;done)
  rename_i e' m L hg;split at h<;>try (cases h;done)
  rename_i hb;obtain⟨rfl,rfl,rfl,ch⟩:=hb;have⟨b0,c,e2,Y,h3⟩:=Hs _ J;have bf:(k+1,0)∈u.rd:=by
   unfold Qu at h;split at h<;>try (cases h;done)
   split at h<;>try (cases h;done)
   simp only[qk,kh]at h;rw[<-h.1];simp[BV]
  have hL:=(R.rep (k+1,0) _ (λe=>by have e:k+1=1000001:=e;omega) ((ae _ bf).trans hg)).2;have bb:=hL;have⟨b,_,_,hb,_⟩:=hL;obtain⟨rfl,e3,h4⟩:=h3 b hb.1;exact Z8 R ho hu h V ae Z (.inr ⟨k,b,c,e3,rfl,e2,hb.1,bb,h4⟩) (Hx _ I)
 .rename_i e n' rows hu J I;split at h<;>try (cases h;done)
  rename_i ht;subst ht;have⟨ad,c,U,e2,cc,_⟩:=fH (Hs _ J);have hz:=Hs _ J;rw[e2]at hz;obtain⟨rfl,rfl⟩:=Rv hz rfl;exact Z8 R ho hu h V ae Z (.inl ⟨rfl,rfl,rfl,e2⟩) (Hx _ I)
 rename_i e n L n' r rs hu J I;split at h<;>try (cases h;done)
 rename_i f z S hz;split at h<;>try (cases h;done)
 rename_i hb;obtain⟨rfl,rfl,rfl,az,B,bp⟩:=hb;simp only[qk,kh]at h;obtain⟨rfl,rfl,rfl⟩:=h;have⟨b1,b2⟩:=V _ (js.2 rfl);have ay:f.zero=some z:=by rw[S]at hz;exact hz
 have⟨ad,e2,aj⟩:=Hs _ J;have N:fI (okB W0.heap.size ok0 β) w (.s f.size (r::rs)) (a.eval x):=Hx _ I;have⟨X,cx,Ux,e3,_⟩:=fH N;rw[e2]at aj;rw[e3]at N;have⟨_,bl,G,lo,co,ro⟩:=LZ aj B;have⟨_,bm,F,ln,cn,rn⟩:=LZ N B
 cases X with
 | none=>exact absurd (bm rfl) ot
 | some X =>
  have ba:=Uq N B bp ln rn;have W:∃v' O,(Builtin.append_ #[t,t] o.type #[a.eval s,a.eval x]).run P w =.ok v' O/\O.ownsRow w.heap.size e f.size v' (L.length+(rs.length+1)) (G++F)/\cm w O none:=by
   rw[e2,e3]
   cases ad with
   | some q=>exact run_append_arg_grows (P:=P) w t o.type e f z f.size f.bytes hu S ay rfl rfl az B q L.length L.length G lo (co q rfl) X (rs.length+1) cx F (by simpa using ln) (cn X rfl) od b1 b2
   | none =>
    obtain rfl:=bl rfl;obtain rfl:G=[]:=jx (by simpa using lo);have⟨v',O,E,r1,r2,_⟩:=run_append_own (P:=P) w w.heap.size t o.type e f z f.size f.bytes hu S ay rfl rfl az B (.n0) 0 [] (qg1 w _ e f.size) X (rs.length+1) cx F (by simpa using ln) (cn X rfl) ba (by simpa using b1) (by simpa using b2) (qS _);exact⟨v',O,E,by simpa using r1,r2⟩
  have⟨v',O,E,au,bc⟩:=W;have m:=R.grow bc;refine λK Q hK=>zD (v:=v') (w':=O) ?_ (hK W0 ok0 β _ _ m ?_ ot R.FK (λn hn=>by cases hn) ot)
  .simp[execOp,ho,resolve,invoke,builtin,E,Result.andThen]
  .have⟨cb,hh⟩:=au;rcases hh with⟨_,h0⟩|⟨g,aC,aO,rfl,hg,aq,ar,cd,cf,bq⟩
   .omega
   .have ai:(L++r::rs).length=L.length+(rs.length+1):=by simp
    have ah:∀(q:Nat) (v:cg),(G++F)[q]?=some v->O.cell? ⟨g,0+q,none⟩=some v:=λq v hv=>by rw[<-bq]at hv;have : aO.toList[q]?=some v:=vJ hv;simp only[World.cell?,aq,qa2];simpa using this
    have aa:=UR (xs:=L) (ys:=r::rs) lo ro rn;have W:fI (okB W0.heap.size ok0 β) O (.s f.size (L++r::rs)) (.o g (L++r::rs).length aC):=by
     refine .s (λi j=>((G++F)[i*f.size+j]?).getD undef) (by rw[ai];exact ar) (by rw[ai];exact b1) (λi y hy=>?_) (λi y j x h1 Y=>?_) (λi y j x h1 Y=>?_)
     .have⟨_,_,_,_,_,_,l1,_⟩:=fH aj;have⟨_,_,_,_,_,_,l2,_⟩:=fH N
      by_cases S:i<L.length
      .rw[jz S]at hy;exact l1 i y hy
      .rw[ju od]at hy;exact l2 _ y hy
     .have⟨v,e5,e6⟩:=aa i y j x h1 Y;refine⟨g,0,rfl,.inr ⟨km R.gr.size hg,λk e=>?_⟩,?_⟩
      .have:=(R.new k _ e).2;omega
      .rw[ah _ _ e5,e5];rfl
     .have⟨v,e5,e6⟩:=aa i y j x h1 Y;rw[e5];exact e6.keep m.keep
    rw[ai]at W;exact W
def Eb[pq](Q:Inv Wb okb W0 ok0 ds nt β a w σL){okS:br}{x y:X}{v:cg}(N:∀b,okB W0.heap.size ok0 β b->okS b)(O:∀k∈x.keys,∀b,β k=some b->okS b)(h:yj σ x=some y)(S:∀p∈Y6 σ x,p.2)(A:∀k∈x.keys,get σL (k+1,0)=get σ (k+1,0))(z:jm β (okB W0.heap.size ok0 β) w x v):jm (λ_=>none) okS w y v/\∀k∈x.keys,2000000<=k:=by
 have hk:zH (okB W0.heap.size ok0 β) w okS w:=⟨qS _,λb _ h=>⟨N b h,λ_=>rfl⟩⟩
 cases x with
 | d x=>simp only[yj,qk]at h;subst h;exact⟨fI.keep z hk,λk hk=>by cases hk⟩
 | g k n l =>
  simp only[yj]at h;split at h<;>try (cases h;done)
  rename_i e m I L;split at h<;>try (cases h;done)
  rename_i T;obtain⟨rfl,E⟩:=T;simp only[qk]at h;subst h;refine⟨?_,λZ q=>by simp only[X.keys,js]at q;subst q;exact E⟩;have R:=(Q.rep (k+1,0) _ (λe=>by have e:k+1=1000001:=e;omega) ((A k vq).trans L)).2;have⟨b,cs,c,K,f,C,D,U,V,t,o⟩:=R;obtain⟨W,M,rfl,_,P⟩:=z;obtain⟨rfl,Y,J⟩:=P b K.1;have F:l=I.length:=S (true,l=I.length) (by simp only[Y6,L];simp);subst F;have B:c=M:=by simp only[Zp,f,qk,kh]at J;exact Nat.eq_of_mul_eq_mul_right V (C.symm.trans J.1)
  subst B;refine fI.s (λi j=>(cs[i*m+j]?).getD undef) D od (λi r z=>t r (zj z)) (λi r j x G H=>?_) (λi r j x G H=>?_) (λe=>od)<;>have⟨u,u1,u2⟩:=o i r j x G H<;>rw[u1]
  .exact⟨b,0,rfl,O k vq b K.1,by simp[World.cell?,f,u1]⟩
  .exact u2.keep hk
 | _=>cases h
def sealXs_get:∀{xs ys:List X},KQ σ xs=some ys->ys.length=xs.length/\∀(i:Nat) (y:X),ys[i]?=some y->∃x,xs[i]?=some x/\yj σ x=some y
 | [],ys,h=>by simp only[KQ,qk]at h;subst h;simp
 | x::xs,ys,h=>by
  simp only[KQ]at h;split at h<;>try (cases h;done)
  rename_i y l c d;simp only[qk]at h;subst h;have⟨a,b⟩:=sealXs_get d;refine⟨by simp[a],λi z hz=>?_⟩
  cases i with
  | zero=>simp only[kA,qk]at hz;subst hz;exact⟨x,rfl,c⟩
  | succ i=>have⟨g,e,f⟩:=b i z (by simpa using hz);exact⟨g,by simpa using e,f⟩
def OH[pq](z:Inv Wb okb W0 ok0 ds nt β a w σL){okS:br}{A B:A1}{v:cg}(t:∀b,okB W0.heap.size ok0 β b->okS b)(u:∀k∈A.keys,∀b,β k=some b->okS b)(h:AB σ A=some B)(C:∀p∈UN σ A,p.2)(d:∀k∈A.keys,get σL (k+1,0)=get σ (k+1,0))(D:gm β (okB W0.heap.size ok0 β) w A v):gm (λ_=>none) okS w B v/\∀k∈A.keys,2000000<=k:=by
 cases A with
 | one x =>
  simp only[AB,kd]at h;obtain⟨y,h,rfl⟩:=h;exact Eb z t u h (λp o=>C p (by simp only[UN,A1.xs,qd4,List.flatMap_nil,qd1];exact o)) d D
 | agg F =>
  simp only[AB,kd]at h;obtain⟨G,h,rfl⟩:=h;have⟨I,s⟩:=sealXs_get h;obtain⟨E,rfl,m⟩:=D;have e:∀(i:Nat) (x y:X) (v:cg),F[i]?=some x->yj σ x=some y->E[i]?=some v->jm (λ_=>none) okS w y v/\∀k∈x.keys,2000000<=k:=λi x y v f q c=>by have n:=zj f;have⟨L,g,H⟩:=m.get _ _ f;rw[c]at g;simp only[qk]at g;subst g;exact Eb z t (λk hk=>u k (A1.Tg n hk)) q (λp o=>C p (by simp only[UN,A1.xs,qc1];exact⟨x,n,o⟩)) (λk hk=>d k (A1.Tg n hk)) H
  refine⟨⟨E,rfl,dU.of (by rw[m.length,I]) (λi y v f q=>?_)⟩,λk hk=>?_⟩
  .have⟨x,c,r⟩:=s i y f;exact (e i x y v c r q).1
  .simp only[A1.keys,qc1]at hk;have⟨x,J,hk⟩:=hk;have⟨i,j⟩:=qg3 J;have l:i<F.length:=(qv.1 j).1;have K:G[i]?=some G[i]:=qn od;have⟨M,c,r⟩:=s i _ K;rw[j]at c;simp only[qk]at c;subst c;exact (e i x _ _ j r (qn (by rw[m.length];exact l))).2 k hk
def yM[pq](l:Inv Wb okb W0 ok0 ds nt β a w σL){okS:br}(i:∀b,okB W0.heap.size ok0 β b->okS b):∀(xs:List Operand) (az:List A1) (ks:List Nat) (c:Obl),Gd σ xs=some (az,ks,c)->(∀p∈c,p.2)->(∀k∈ks,get σL (k+1,0)=get σ (k+1,0))->(∀k∈ks,∀b,β k=some b->okS b)->(∀x∈xs,∀v,tC σ x=some v->iZ β (okB W0.heap.size ok0 β) w v (a.eval x))->dU (gm (λ_=>none) okS w) az (xs.map a.eval)/\∀k∈ks,2000000<=k
 | [],az,ks,c,h,_,_,_,_=>by simp only[Gd,qk,kh]at h;obtain⟨rfl,rfl,rfl⟩:=h;exact⟨trivial,ot⟩
 | x::xs,az,ks,c,h,f,d,j,H=>by
  simp only[Gd]at h;split at h<;>try (cases h;done)
  rename_i A e;split at h<;>try (cases h;done)
  rename_i B q m n;simp only[qk,kh]at h;obtain⟨rfl,rfl,rfl⟩:=h;have⟨r,s⟩:=OH l i (λk hk=>j k (by simp[hk])) m (λp g=>f p (by simp[g])) (λk hk=>d k (by simp[hk])) (H x ot _ e);have⟨t,u⟩:=yM l i xs q.1 q.2.1 q.2.2 n (λp g=>f p (by simp[g])) (λk hk=>d k (by simp[hk])) (λk hk=>j k (by simp[hk])) (λy o=>H y (by simp[o]));exact⟨⟨r,t⟩,λk hk=>by rcases xb.1 hk with hk|hk;exact s k hk;exact u k hk⟩
def Dc.comp{σ1:St}{β1 β2:Nat->Option Nat}{m w':bx}{i:br}{j l:List Loc}(c:Dc σL W0 ok0 β w W0 ok0 β1 w j)(a:Dc σ1 W0 ok0 β1 w m i β2 w' l)(s:∀k,(get σL (k+1,0)).isSome->(get σ1 (k+1,0)).isSome):Dc σL W0 ok0 β w m i β2 w' (l++j) where
 gr:=a.gr
 new:=a.new
 inj:=a.inj
 sub k b hk h:=a.sub k b hk (c.sub k b hk h)
 fresh k b h:=by
  rcases a.fresh k b h with h|h
  .exact (c.fresh k b h).imp id (λh=>xb.2 (.inr h))
  .exact .inr (xb.2 (.inl h))
 keep:=⟨km c.keep.1 a.keep.1,λb p r=>by have⟨t,u⟩:=c.keep.2 b p r;have⟨v,x⟩:=a.keep.2 b p t;exact⟨v,λo=>(x o).trans (u o)⟩⟩
 own k b q hk h hn:=by have⟨d,e⟩:=c.own k b q hk h (λh=>hn (xb.2 (.inr h)));have⟨f,g⟩:=a.own k b q hk (c.sub k b hk h) (λh=>hn (xb.2 (.inl h)));exact⟨f.trans d,g.trans e⟩
 Kk k b hk h hn:=by have⟨d,e⟩:=c.Kk k b hk h (λh=>hn (xb.2 (.inr h)));have⟨f,g⟩:=a.Kk k b hk d (λh=>hn (xb.2 (.inl h)));exact⟨f,g.trans e⟩
 alive n hn b h:=by have⟨d,e⟩:=a.alive n (s n hn) b h;have⟨f,g⟩:=c.alive n hn b d;exact⟨f,e.trans g⟩
 nk:=a.nk
def qp.sub[pq]{β':Nat->Option Nat}(h:qp Wb okb W0 ok0 β σ)(c:∀k b,β' k=some b->β k=some b):qp Wb okb W0 ok0 β' σ:=by refine⟨λe=>⟨(h.1 e).1,λk b a=>(h.1 e).2 k b (c k b a)⟩,λv e=>?_⟩;have⟨i,d,a,f,g⟩:=h.2 v e;refine⟨i,d,a,f,λk q m=>?_⟩;have⟨j,n,o,p⟩:=g k q m;exact⟨j,n,o,λe b l=>p e b (c k b l)⟩
def Comes.aaE[pq](f:Inv Wb okb W0 ok0 ds nt β a w σL){ks:List Nat}(i:∀k∈ks,2000000<=k){res:Option AV}{mem:List (Loc×AV)}{rd B:List Loc}
 (h:∀β':Nat->Option Nat,(∀k b,β' k=some b->β k=some b)->(∀b,okB W0.heap.size ok0 β b->okB W0.heap.size ok0 β' b)->(∀k∈ks,∀b,β k=some b->okB W0.heap.size ok0 β' b)->Inv Wb okb W0 ok0 ds nt β' a w (eF ks++σL)->Comes P Wb okb W0 ok0 β' a w (eF ks++σL) o ⟨res,mem,rd⟩):Comes P Wb okb W0 ok0 β a w σL o ⟨res,mem++eF ks,B⟩:=by
 let β':Nat->Option Nat:=λk=>if k∈ks then none else β k
 have β1:∀k b,β' k=some b->β k=some b/\k ∉ ks:=λk b h=>by
  simp only[β']at h;split at h
  .cases h
  .rename_i hk;exact⟨h,hk⟩
 have β2:∀k b,β k=some b->k ∉ ks->β' k=some b:=λk b h hk=>by simp only[β'];rw[if_neg hk];exact h
 have p:∀b,okB W0.heap.size ok0 β b->okB W0.heap.size ok0 β' b:=λb r=>r.imp id (λh=>⟨h.1,λk e=>h.2 k (β1 k b e).1⟩);have D:(eF ks).map (λ(x:Loc×AV)=>x.1)=ks.map λk=>(k+1,0):=by simp[eF]
 have l:∀k,k∈ks->(k+1,0)∈(eF ks).map (λ(x:Loc×AV)=>x.1):=λk hk=>by rw[D];exact ud.2 ⟨k,hk,rfl⟩
 have E:Dc σL W0 ok0 β w W0 ok0 β' w ((eF ks).map (λ(x:Loc×AV)=>x.1)):={
  gr:=f.gr
  new:=λk b h=>f.new k b (β1 k b h).1
  inj:=λk q b h J=>f.inj k q b (β1 k b h).1 (β1 q b J).1
  sub:=λk b hk h=>β2 k b h (λj=>by have:=i k j;omega)
  fresh:=λk b h=>.inl (β1 k b h).1
  keep:=⟨qS _,λb _ h=>⟨p b h,λ_=>rfl⟩⟩
  own:=λ_ _ _ _ _ _=>⟨rfl,rfl⟩
  Kk:=λk b _ h m=>⟨β2 k b h (λj=>m (l k j)),rfl⟩
  alive:=λn _ b h=>⟨(β1 n b h).1,rfl⟩
  nk:=by simp only[β'];split;rfl;exact f.nk }
 have g:∀x∈(eF ks).map (λ(x:Loc×AV)=>x.1),x.1≠1000001:=λx c=>by rw[D]at c;obtain⟨k,hk,rfl⟩:=ud.1 c;have:=i k hk;show k+1≠1000001;omega
 have dead:∀x v,(x,v)∈eF ks->v=AV.dead/\∃k,x=(k+1,0):=λx v c=>by simp only[eF,ud,kh]at c;obtain⟨k,_,rfl,rfl⟩:=c;exact⟨rfl,k,rfl⟩
 have s:Inv Wb okb W0 ok0 ds nt β' a w (eF ks++σL):=f.next E (wr:=eF ks) (d:=none) (u:=undef) (λx c=>c) (λx e=>by cases e) (λx v c _=>by obtain⟨rfl,k,rfl⟩:=dead x v c;trivial) ((f.FK.sub (λk b h=>(β1 k b h).1)).skip g) (λx v c n m=>by obtain⟨rfl,_⟩:=dead x v c;cases m)
 intro K Q L;refine h β' (λk b h=>(β1 k b h).1) p (λk hk b r=>?_) s K Q (λF A β2 R C O M j N y t=>L F A β2 R C ?_ M (λx v c g G=>?_) ?_ ?_ (λx v c=>?_))
 .rcases jf5 b W0.heap.size with z|z
  .exact .inl ⟨z,(f.new k b r).1.resolve_left od⟩
  .exact .inr ⟨z,λq e=>by have⟨H,I⟩:=β1 q b e;exact I (f.inj q k b H r ▸ hk)⟩
 .have:=E.comp O (λk hk=>get_mono _ _ _ (.inl hk));simpa only[qb5]using this
 .rcases xb.1 c with c|c
  .exact j x v c g G
  .obtain⟨rfl,k,rfl⟩:=dead x v c;trivial
 .simpa only[ur]using N
 .simpa only[ur]using y
 .rcases xb.1 c with c|c
  .simpa only[ur]using t x v c
  .obtain⟨rfl,_⟩:=dead x v c;intro n m;cases m
def argsO_some:∀{xs:List Operand}{q:List A1×List Nat×List (Bool×Prop)},Gd σ xs=some q->∀k∈q.2.1,∃v,get σ (k+1,0)=some v
 | [],q,h,k,hk=>by simp only[Gd,qk]at h;subst h;cases hk
 | x::xs,q,h,k,hk=>by
  simp only[Gd]at h;split at h<;>try (cases h;done)
  rename_i A e;split at h<;>try (cases h;done)
  rename_i B w a p;simp only[qk]at h;subst h;rcases xb.1 hk with hk|hk
  .have b:∀{x y:X},yj σ x=some y->k∈x.keys->∃v,get σ (k+1,0)=some v:=λ{x y} h hk=>by
    cases x with
    | g s n l =>
     simp only[X.keys,js]at hk;subst hk;simp only[yj]at h;split at h<;>try (cases h;done)
     rename_i j;exact⟨_,j⟩
    | q s o=>cases h
    | _=>cases hk
   cases A with
   | one x =>
    simp only[AB,kd]at a;have⟨y,a,_⟩:=a;exact b a hk
   | agg C =>
    simp only[AB,kd]at a;have⟨D,a,_⟩:=a;have⟨u,f⟩:=sealXs_get a;simp only[A1.keys,qc1]at hk;have⟨y,r,hk⟩:=hk;have⟨i,d⟩:=qg3 r;have m:=(qv.1 d).1;have⟨z,c,t⟩:=f i _ (qn od);rw[d]at c;simp only[qk]at c;subst c;exact b t hk
  .exact argsO_some p k hk
def iZ.aae{ok ok':br}{v:AV}{x:cg}{w':bx}(k:zH ok w' ok' w')(nk:v.keys=[])(h:iZ (λ_=>none) ok w' v x):iZ β ok' w' v x :=
 iZ.u6 k (λ_ _ _ e=>by cases e) v x (λn a=>by rw[nk]at a;cases a) h
def c_call[pq](hI:Inv Wb okb W0 ok0 ds nt β a w σL){c:Call}{f:FuncId}(ho:o.op =.call c)(hf:c.callee =.value (.func f))(h:Dk P T C σ o=some (u,C',ob))(H:CK β (okB W0.heap.size ok0 β) a w σ o)(hC:∀s∈C,Holds P s)(hob:∀p∈ob,p.2)(hag:∀x∈u.rd,get σL x=get σ x)(hag2:∀x∈u.mem.map (·.1),get σL x=get σ x) :
 Comes P Wb okb W0 ok0 β a w σL o u:=by
 simp only[Dk,ho,hf]at h;split at h<;>try (cases h;done)
 rename_i s C2 az ks obs hargs;split at h<;>try (cases h;done)
 rename_i hs;have hS:=hC s ot;have hrun:(execOp a.eval o).run P w =.ok (.enter f (c.args.toList.map a.eval).toArray) w:=by have:=hS.OT.1 (c.args.toList.map a.eval).toArray w;rw[hs]at this;simp only[execOp,ho,resolve,hf,show a.eval (.func f) =.func (.func f) #[] #[] from rfl,Deferred.ofValue,qa7,jd6,Result.andThen,invoke];rw[show (c.args.map a.eval)=(c.args.toList.map a.eval).toArray by rw[<-Array.toList_map,Array.toArray_toList]];simpa using this
 have hops:∀x∈c.args.toList,∀v,tC σ x=some v->iZ β (okB W0.heap.size ok0 β) w v (a.eval x):=λx hx=>H x (by simp only[ho,Op.operands,Call.operands,hf,Array.toList_append,xb];exact .inr hx);have dl:∀k∈ks,(k+1,0)∈BV ks:=λk hk=>ud.2 ⟨k,hk,rfl⟩;split at h
 .rename_i hmv;split at h
  .rename_i hfr;split at h<;>try (cases h;done)
   rename_i el n es d hres hd;split at h<;>try (cases h;done)
   rename_i hc;have⟨hd9,hnew,hnv⟩:=hc;simp only[qk,kh]at h;obtain⟨rfl,rfl,rfl⟩:=h;have e:az=s.args:=hob (false,az=s.args) ot;have hA:=λ{okS:br} h1 h2=>yM hI (okS:=okS) h1 _ _ _ _ hargs (λp hp=>hob p (by simp[hp])) (λk hk=>hag _ (by simp[dl k hk])) h2 hops;have hks:=(hA (okS:=λ_=>True) (λ_ _=>trivial) (λ_ _ _ _=>trivial)).2;have hnv':get σL (1000001,0)=none:=(hag _ ot).trans (qa4.1 hnv);have hlk:get σL (mH d+1,0)=none:=(hag2 _ ot).trans (qa4.1 hnew);refine Comes.aaE hI hks (rd:=[]) (λβ' hβ hok hok2 hI1=>?_);have hr:=(hA hok hok2).1;rw[e]at hr;have hdn:∀x:Loc,(∀k∈ks,x≠(k+1,0))->get (eF ks++σL) x=get σL x:=λx hx=>get_skip _ _ _ (λhm=>by simp only[eF,List.map_map,ud]at hm;have⟨k,hk,e2⟩:=hm;exact hx k hk e2.symm)
   have hlk2:get (eF ks++σL) (mH d+1,0)=none:=by
    rw[hdn _ (λk hk e2=>?_)]
    .exact hlk
    .have e3:mH d=k:=by simpa using e2
     have h5:=hag _ (show (k+1,0)∈(1000001,0)::BV ks by simp[dl k hk]);rw[<-e3]at h5;have⟨v,hv⟩:=argsO_some hargs k hk;rw[<-e3]at hv;rw[hv,hlk]at h5;cases h5
   have hnv2:get (eF ks++σL) (1000001,0)=none:=by rw[hdn _ (λk hk e2=>by have:=hks k hk;simp only[kh]at e2;omega)];exact hnv'
   intro K Q hK;unfold Oper.wp;rw[hrun,Oper.upon_enter];have hcall:=hS.abm hmv hfr;rw[hres]at hcall;have hcall:=hcall _ w _ hr;rw[hs]at hcall;refine hcall.mono ?_;rintro e w' ⟨hg,v,rfl,hfr⟩;exact SF hI1 hlk2 hnv2 hg hfr (λW1 ok1 β2 w2 val m hr hm hv hkr hkm=>hK W1 ok1 β2 w2 val m hr hm hv hkr hkm)
  .rename_i hfr;simp only[qk,kh]at h;obtain⟨rfl,rfl,rfl⟩:=h;have e:az=s.args:=hob (false,az=s.args) ot;have hA:=λ{okS:br} h1 h2=>yM hI (okS:=okS) h1 _ _ _ _ hargs (λp hp=>hob p (by simp[hp])) (λk hk=>hag _ (dl k hk)) h2 hops;have hks:=(hA (okS:=λ_=>True) (λ_ _=>trivial) (λ_ _ _ _=>trivial)).2;refine Comes.aaE hI hks (rd:=[]) (λβ' hβ hok hok2 hI1=>?_);have hr:=(hA hok hok2).1;rw[e]at hr;intro K Q hK;unfold Oper.wp;rw[hrun,Oper.upon_enter];have hcall:=hS.runN (by rw[hmv,show s.fr.b=false by simpa using hfr]) _ w _ hr;rw[hs]at hcall;refine hcall.mono ?_;rintro e w' ⟨hg,v,rfl,hv⟩;have m:=hI1.grow hg;refine hK W0 ok0 β' w' v m ?_ ot hI1.FK (λn hn=>by have hn:n∈s.res.keys:=hn;rw[hS.OT.2]at hn;cases hn) ot;refine iZ.aae ⟨qS _,λb hb hk=>⟨?_,λ_=>rfl⟩⟩ hS.OT.2 hv;rcases hk with hk|hk
   .exact hk
   .refine .inr ⟨km hI1.gr.size hk,λk e=>?_⟩;have:=(hI1.new k b e).2;omega
 .rename_i i j hmv;split at h<;>try (cases h;done)
  rename_i hij;simp only[qk,kh]at h;obtain⟨rfl,rfl,rfl⟩:=h;have e:az=s.args:=hob (false,az=s.args) ot;have hA:=λ{okS:br} h1 h2=>yM hI (okS:=okS) h1 _ _ _ _ hargs (λp hp=>hob p (by simp[hp])) (λk hk=>hag _ (by simp[dl k hk])) h2 hops;have hks:=(hA (okS:=λ_=>True) (λ_ _=>trivial) (λ_ _ _ _=>trivial)).2;have ev:=hag (1000001,0) ot;refine Comes.aaE hI hks (rd:=[]) (λβ' hβ hok hok2 hI1=>?_);have hr:=(hA hok hok2).1;rw[e]at hr;have ev2:get (eF ks++σL) (1000001,0)=get σ (1000001,0):=by
   rw[get_skip _ _ _ (λhm=>?_)]
   .exact ev
   .simp only[eF,List.map_map,ud]at hm;have⟨k,hk,e2⟩:=hm;have:=hks k hk;simp only[Function.comp,kh]at e2;omega
  have⟨v1,v2⟩:=hI1.FK
  cases hgv:get (eF ks++σL) (1000001,0)with
  | none=>rw[<-ev2,hgv]at hij;simp[verN]at hij
  | some vv =>
   obtain⟨i',rfl,g1,gf,g2⟩:=v2 vv hgv;have ei:i'=i:=by have:=hij.1;rw[<-ev2,hgv]at this;simpa[verN,Aj]using this
   subst ei;intro K Q hK;unfold Oper.wp;rw[hrun,Oper.upon_enter];have hr2:=dU.mono (R':=gm (λ_=>none) (λb=>(b<W0.heap.size/\ok0 b)\/W0.heap.size<=b) w) (λx v hx=>gm.keep ⟨qS _,λb hb ho=>⟨ho.imp id (·.1),λ_=>rfl⟩⟩ (λ_ _ e=>e) _ _ hx) hr;have hcall:=hS.runM hmv _ w _ (pq.grow _ _ _ _ g1 hI1.gr) hr2;rw[hs]at hcall;refine hcall.mono ?_;rintro e w' ⟨hsz,ok1,G1,hk1,v,rfl,hv⟩;have hin:∀k b,β' k=some b->(b<W0.heap.size/\ok0 b)\/W0.heap.size<=b:=λk b hb=>by
    rcases jf5 b W0.heap.size with h|h
    .rcases (hI1.new k b hb).1 with h3|h3
     .omega
     .exact .inl ⟨h,h3⟩
    .exact .inr h
   have hblk:∀k b,β' k=some b->ok1 b/\w'.heap[b]?=w.heap[b]?:=λk b hb=>hk1 b (hI1.new k b hb).2 (hin k b hb);have m:Dc (eF ks++σL) W0 ok0 β' w w' ok1 β' w' ([((1000001,0),Aj j)].map (λ(x:Loc×AV)=>x.1)):={
    gr:=⟨rfl,rfl,rfl,qS _,λ_ _ _=>rfl⟩
    new:=λk b hb=>⟨.inr (hblk k b hb).1,ki (hI1.new k b hb).2 hsz⟩
    inj:=hI1.inj
    sub:=λ_ _ _ e=>e
    fresh:=λ_ _ e=>.inl e
    keep:=⟨hsz,λb hb ho=>⟨.inl ⟨ki hb hsz,(hk1 b hb (ho.imp id (·.1))).1⟩,λq=>qt (hk1 b hb (ho.imp id (·.1))).2⟩⟩
    own:=λk b q _ e _=>⟨qt (hblk k b e).2,jd5 (hblk k b e).2⟩
    Kk:=λk b _ e _=>⟨e,(hblk k b e).2⟩
    alive:=λn _ b e=>⟨e,qc (hblk n b e).2⟩
    nk:=hI1.nk }
   refine hK w' ok1 β' w' v m ?_ (λx u hx hne=>?_) ⟨λh=>?_,λv hv=>?_⟩ (λn hn=>by have hn:n∈s.res.keys:=hn;rw[hS.OT.2]at hn;cases hn) (λx u hx n hn=>?_)
   .exact iZ.aae ⟨qS _,λb hb hk=>⟨.inl ⟨hb,hk⟩,λ_=>rfl⟩⟩ hS.OT.2 hv
   .simp only[js,kh]at hx;exact absurd (by rw[hx.1]) hne
   .simp[get]at h
   .simp only[qd0,qe5,get,if_pos,qk]at hv;refine⟨j,hv.symm,G1,⟨km gf.1 (km hI1.gr.size hsz),λb hb hk=>?_⟩,λk v' hk=>?_⟩
    .have hbw:=ki hb gf.1;have⟨c1,c2⟩:=gf.2 b hb hk;have⟨c3,c4⟩:=hk1 b (ki hbw hI1.gr.size) (.inl ⟨hbw,c1⟩);exact⟨c3,c4.trans ((hI1.gr.block b hbw ot).trans c2)⟩
    .have hk':get (eF ks++σL) (1000001,k+1)=some v':=by
      have:=get_skip [((1000001,0),Aj j)] (eF ks++σL) (1000001,k+1) ot;rw[<-this];exact hk
     have⟨j',j1,j2,j3⟩:=g2 k v' hk';exact⟨j',j1,od,λe=>od⟩
   .simp only[js,kh]at hx;obtain⟨rfl,rfl⟩:=hx;cases hn
end
def TW{P:Program}{σ:St}{o:Oper}{T:Hints}{C a:List Sp}{ob:Obl}{u:Out}(h:Dk P T C σ o=some (u,a,ob)):∀s∈a,s∈C:=by
 have b:a=C\/∃s,C=s::a:=by
  unfold Dk UM Hw aar Qu at h
  repeat' split at h
  all_goals first
   | (cases h;done)
   | (simp only[kd,kh,qk]at h;first|(have⟨_,_,_,h,_⟩:=h;exact .inl h.symm)|(have⟨_,h,_⟩:=h;first|exact .inl h.symm|(subst h;exact .inr ⟨_,rfl⟩)))
 rcases b with rfl|⟨s,rfl⟩
 .exact λ_ h=>h
 .exact λ_ h=>by simp[h]
def IG{b:Nat->Option (Nat×Nat)} : ∀{ps:List (Nat×List X)}{xs ys:List X},xB b xs ps=some ys->∀y∈ys,y∈xs\/∃p∈ps,y∈p.2
 | [],xs,ys,h,y,c=>by simp only[xB,qk]at h;subst h;exact .inl c
 | (i,e)::r,xs,ys,h,y,c=>by
  simp only[xB]at h;split at h<;>try (cases h;done)
  split at h<;>try (cases h;done)
  rcases IG h y c with a|⟨p,a,d⟩
  .simp only[xb]at a;rcases a with a|a|a
   .exact .inl (qe2 a)
   .exact .inr ⟨(i,e),ot,a⟩
   .exact .inl (qh2 a)
  .exact .inr ⟨p,by simp[a],d⟩
def EY{σ:St} : ∀{a:List (Nat×Operand)}{ps:List (Nat×List X)},zn σ a=some ps->∀p∈ps,∀y∈p.2,∀n∈y.keys,∃x∈a.map (·.2),∃v,tC σ x=some v/\n∈v.keys
 | [],ps,h,p,b,_,_,_,_=>by simp only[zn,qk]at h;subst h;cases b
 | (i,x)::r,ps,h,p,b,y,d,n,c=>by
  simp only[zn]at h;split at h<;>try (cases h;done)
  rename_i A e;split at h<;>try (cases h;done)
  simp only[kd]at h;obtain⟨k,h,rfl⟩:=h;rcases zr.1 b with rfl|b
  .obtain⟨z,hz,rfl⟩:=ud.1 d;exact⟨x,ot,_,e,A1.Tg hz (by cases z<;>first|exact c|cases c)⟩
  .have⟨j,f,g⟩:=EY h p b y d n c;exact⟨j,by simp only[qc3,zr];exact .inr f,g⟩
def J2(v:cg):∀x∈(ofV v).xs,x.keys=[]:=λx a=>by
 unfold ofV at a;split at a
 .obtain⟨y,_,rfl⟩:=ud.1 a;rfl
 .simp only[A1.xs,js]at a;subst a;rfl
def ZT{n:Nat}{es:List bd}{l:Option Nat}{h:Option (Option Nat)}{v:AV}(e:qA n es l h=some v):v.keys=[]:=by
 unfold qA at e;split at e<;>try (cases e;done)
 all_goals
  simp only[kd]at e;obtain⟨_,_,rfl⟩:=e;rfl
def N8{P:Program}{σ σL:St}{o:Oper}{v:AV}(h:fV P σ o.op=some v)(m:Z6 σL σ o):zl σL v:=by
 have d:∀{x:Operand} {v:AV},x∈o.op.operands.toList->tC σ x=some v->zl σL v:=λr e=>m _ r _ e;unfold fV at h;split at h
 case h_1 x b=>exact d (by simp[b,Op.operands]) h
 case h_2 x b=>exact d (by simp[b,Op.operands]) h
 case h_3 c x y b =>
  split at h<;>try (cases h;done)
  .exact d (x:=x) (by simp[b,Op.operands]) h
  .exact d (x:=y) (by simp[b,Op.operands]) h
 case h_4 t x f b =>
  repeat' (split at h<;>try (cases h;done))
  all_goals simp only[qk]at h;subst h
  .intro n a;cases a
  .intro n a;cases a
  .rename_i e;exact λn a=>d (x:=x) (by simp[b,Op.operands]) e n a
 case h_5 t x i b =>
  repeat' (split at h<;>try (cases h;done))
  .unfold Bp at h
   repeat' (split at h<;>try (cases h;done))
   simp only[qk]at h;subst h;intro n a;cases a
  .rename_i e _;simp only[qk]at h;subst h;exact λn a=>d (x:=x) (by simp[b,Op.operands]) e n a
  .simp only[qk]at h;subst h;intro n a;cases a
 case h_6 t x F E b =>
  repeat' (split at h<;>try (cases h;done))
  all_goals first
   | (intro n a;rw[ZT h]at a;cases a;done)
   | (simp only[qk]at h;subst h;have e:=‹tC σ x=some (AV.of (A1.one (X.g _ _ _)))›;exact λn a=>d (x:=x) (by simp[b,Op.operands]) e n a)
 case h_7 t x y z b =>
  repeat' (split at h<;>try (cases h;done))
  simp only[kd]at h;obtain⟨_,_,rfl⟩:=h;intro n a;cases a
 case h_8 t x f b =>
  repeat' (split at h<;>try (cases h;done))
  intro n a;have⟨y,j,k⟩:=JY h n a;refine d (x:=x) (v:=.of (.agg _)) (by simp[b,Op.operands]) oS n (by simp only[AV.keys,A1.keys,qc1];exact⟨y,qh2 (qe2 j),k⟩)
 case h_9 x i b =>
  split at h<;>try (cases h;done)
  rename_i C e;simp only[kd]at h;obtain⟨A,j,rfl⟩:=h;exact λn a=>d (x:=x) (by simp[b,Op.operands]) e n (by simp only[AV.keys,qc1];exact⟨A,zj j,a⟩)
 case h_10 op t x y H b =>
  repeat' (split at h<;>try (cases h;done))
  .unfold cmpO at h
   repeat' split at h
   all_goals first|(cases h;done)|(simp only[qk]at h;subst h;intro n a;cases a)
  all_goals simp only[qk]at h;subst h;intro n a;cases a
 case h_11 t x b =>
  split at h<;>try (cases h;done)
  simp only[qk]at h;subst h;intro n a;cases a
 case h_12 x b =>
  split at h<;>try (cases h;done)
  .simp only[qk]at h;subst h;intro n a;cases a
  .simp only[qk]at h;subst h;intro n a;cases a
  .rename_i e;simp only[qk]at h;subst h;exact λn a=>d (x:=x) (by simp[b,Op.operands]) e n a
 case h_13 t l b =>
  split at h<;>try (cases h;done)
  rename_i D z G _ _ q;split at h<;>try (cases h;done)
  simp only[kd]at h;obtain⟨J,h,rfl⟩:=h;intro n a;simp only[AV.keys,A1.keys,qc1]at a;have⟨y,s,a⟩:=a;rcases IG h y s with j|⟨p,j,k⟩
  .rw[J2 _ y j]at a;cases a
  .have⟨x,u,v,w,B⟩:=EY q p j y k n a;exact d (x:=x) (by simp only[b,Op.operands];simpa using u) w n B
 case h_14 I x b =>
  repeat' (split at h<;>try (cases h;done))
  all_goals simp only[qk]at h;subst h;intro n a;cases a
 case h_15=>cases h
def Jf{σ:St}{o:Oper}{A:A1}{u:Out}(h:M6 σ o A=some u):A.xs.all X.plain:=by
 unfold M6 at h;split at h
 .rename_i d x xs c b;split at h
  .rename_i a;rw[b];exact a.1
  .cases h
 .cases h
section
variable {P:Program}{Wb W0:bx}{okb ok0:br}{ds:List Deferred}{nt:Nat}{β:Nat->Option Nat}{a:Act}{w:bx}{σ σL:St}{o:Oper}{T:Hints}{C C':List Sp}{ob:Obl}{u:Out}
def Dl[pq](D:Inv Wb okb W0 ok0 ds nt β a w σL)(h:Dk P T C σ o=some (u,C',ob))(H:CK β (okB W0.heap.size ok0 β) a w σ o)(I:Z6 σL σ o)(Y:∀s∈C,Holds P s)(B:∀p∈ob,p.2)
 (hag:∀x∈u.rd,get σL x=get σ x) (hag2:∀x∈u.mem.map (·.1),get σL x=get σ x):Comes P Wb okb W0 ok0 β a w σL o u:=by
 have q:Hw P T C σ o=some (u,C',ob)->Comes P Wb okb W0 ok0 β a w σL o u:=λh=>by
  unfold Hw at h;split at h
  .simp only[kd,kh]at h;obtain⟨v,L,rfl,_⟩:=h;exact P8 D (BU L H) (N8 L I)
  .simp only[qk,kh]at h;obtain⟨rfl,_,rfl⟩:=h;have L:=B (true,_) (js.2 rfl);exact P8 D (BU L H) (N8 L I)
 have E:∀x,o.op =.move x\/o.op =.assign x->UM P T C σ o x=some (u,C',ob)->Comes P Wb okb W0 ok0 β a w σL o u:=λx j h=>by
  unfold UM at h;split at h
  .exact q h
  .split at h
   .rename_i k n l W;split at h<;>try (cases h;done)
    rename_i e m S U;split at h<;>try (cases h;done)
    rename_i F;obtain⟨rfl,J⟩:=F;simp only[qk,kh]at h;obtain⟨rfl,rfl,rfl⟩:=h;have hx:=H x (by rcases j with j|j<;>simp[j,Op.operands]) _ W;refine Comes.aaE D (ks:=[k]) (λV r=>by simp only[js]at r;subst r;exact J) (rd:=[]) (λβ' hβ N K M=>?_);have hs:yj σ (.g k m l)=some (.d (.s m S)):=by simp[yj,U,J]
    have hr:=(Eb D (okS:=okB W0.heap.size ok0 β') N (λV r=>by simp only[X.keys,js]at r;subst r;exact K _ ot) hs (λp hp=>B p (by simpa only[Y6,U]using hp)) (λV r=>by simp only[X.keys,js]at r;subst r;exact hag _ (by simp[BV])) hx).1;exact P8 M (v:=.of (.one (.d (.s m S)))) ⟨a.eval x,by rcases j with j|j<;>simp[execOp,j,Result.andThen],hr⟩ (λn G=>by cases G)
   .exact q h
 cases j:o.op with
 | box t x =>
  simp only[Dk,j]at h;split at h<;>try (cases h;done)
  rename_i A e;simp only[kd,kh]at h;obtain⟨u2,h,rfl,_⟩:=h;refine V8 D (A:=A) (v:=a.eval x) (elem:=t) (gm.cells (H x (by simp[j,Op.operands]) _ e) (Jf h)) (λy O n G=>I x (by simp[j,Op.operands]) _ e n (A1.Tg O G)) h hag hag2 ?_;simp[execOp,j,Instr.box,newVar,newRow,Result.andThen]
 | alloc t =>
  simp only[Dk,j]at h;split at h<;>try (cases h;done)
  rename_i z hz;simp only[kd,kh]at h;obtain⟨u2,h,rfl,_⟩:=h;have⟨i,Z,Q⟩:=qf5.1 hz;refine V8 D (A:=ofV z) (v:=z) (elem:=t) yK (λy O n G=>by rw[J2 _ y O]at G;cases G) h hag hag2 ?_;simp[execOp,j,Instr.alloc,zeroValue,run_typeInfo _ Z,Q,newVar,newRow,Result.andThen]
 | load t x=>exact (WZ D j h H B hag).2
 | move x=>exact E x (.inl j) (by simpa only[Dk,j]using h)
 | assign x=>exact E x (.inr j) (by simpa only[Dk,j]using h)
 | store t x y=>exact (TP D j h H I B hag).2
 | buildSlice t n R=>exact TN D j h H hag hag2
 | call c =>
  cases F:c.callee with
  | value f =>
   cases f with
   | func f=>exact c_call D j F h H Y B hag hag2
   | _=>refine q ?_;simpa only[Dk,j,F]using h
  | builtin b =>
   cases b with
   | append=>exact P7 D j F h H I B hag hag2
   | _=>refine q ?_;simpa only[Dk,j,F]using h
  | _=>refine q ?_;simpa only[Dk,j,F]using h
 | _=>refine q ?_;simpa only[Dk,j]using h
def Inv.abl[pq](k:Inv Wb okb W0 ok0 ds nt β a w σL)(d:∀x∈Fb o,get σL x=get σ x):Z6 σL σ o:=λx l v b=>by
 cases x with
 | tmp t=>exact k.hk (0,t) v ((d _ (by unfold Fb;rw[List.mem_filterMap];exact⟨_,l,rfl⟩)).trans b)
 | const c =>
  simp only[tC,qk]at b;subst b;intro n e;have : ∀A:A1,n∈A.keys->∃y∈A.xs,n∈y.keys:=λA h=>by
   cases A with
   | one y=>exact⟨y,by simp[A1.xs],h⟩
   | agg m=>simp only[A1.keys,qc1]at h;exact h
  have⟨y,j,i⟩:=this _ e;rw[J2 c y j]at i;cases i
 | global g=>cases b
 | func f =>
  simp only[tC,qk]at b;subst b;intro n e;cases e
def Inv.ops[pq](d:Inv Wb okb W0 ok0 ds nt β a w σL)(b:∀x∈Fb o,get σL x=get σ x):CK β (okB W0.heap.size ok0 β) a w σ o:=λx g v f =>
 ET f (λt e h c=>d.rep _ _ ot ((b _ (by subst e;unfold Fb;rw[List.mem_filterMap];exact⟨_,g,rfl⟩)).trans c))
def Co[pq]{B:Array Oper}{i:Nat}{rc:Rec}{K:Act->bx->Prop}{Q:Exit->Act->bx->Prop}(f:Inv Wb okb W0 ok0 ds nt β a w σL)(hi:B[i]?=some o)(h:El P T nt B C σ o=some (rc,C',ob))(R:∀s∈C,Holds P s)(H:∀p∈ob,p.2)
 (hag:∀x∈rc.rd,get σL x=get σ x) (hag2:∀x∈rc.ws,get σL x=get σ x) (hK:∀E t β' N w',Inv Wb okb E t ds nt β' N w' (rc.wr++σL)->K N w'):wpOp P B Q i K a w:=by
 have S:∀g,zW P T nt C σ o g=some (rc,C',ob)->o.wp P a w K Q:=λg h=>by
  unfold zW at h;split at h<;>try (cases h;done)
  rename_i u C2 Z U;split at h
  .rename_i d k;split at h<;>try (cases h;done)
   rename_i z;simp only[qk,kh]at h;obtain⟨rfl,rfl,rfl⟩:=h;refine Dl f U (f.ops (λx c=>hag x (by simp[c]))) (f.abl (λx c=>hag x (by simp[c]))) R H (λx c=>hag x (by simp[c])) (λx c=>hag2 x (by simp only[Rec.ws,qc3,zr];exact .inr c)) K Q ?_;intro E t β' w' D m V J r G y;refine hK E t β' _ w' ((f.next m (wr:=((0,d),u.res.getD undefA)::u.mem) (λx c=>by simp only[qc3,zr];exact .inr c) (λx e=>by rw[k]at e;simp only[qk]at e;subst e;simp) (λx v c A=>?_) ?_ (λx v c n I=>?_)))
   rotate_left
   .rw[qd0];exact qp.skip (l:=[((0,d),u.res.getD undefA)]) r ot
   .rw[qd0];refine get_mono [((0,d),u.res.getD undefA)] _ _ (.inl ?_);simp only[zr,kh]at c;rcases c with⟨_,rfl⟩|c
    .exact G n I
    .exact y x v c n I
   simp only[zr,kh]at c;rcases c with⟨rfl,rfl⟩|c
   .exact⟨D,by rw[k];exact Fg a d D (by rw[f.sz];exact z),V⟩
   .exact J x v c A _
  .rename_i k;simp only[qk,kh]at h;obtain⟨rfl,rfl,rfl⟩:=h;refine Dl f U (f.ops (λx c=>hag x (by simp[c]))) (f.abl (λx c=>hag x (by simp[c]))) R H (λx c=>hag x (by simp[c])) (λx c=>hag2 x c) K Q ?_;intro E t β' w' D m V J r G y;exact hK E t β' _ w' ((f.next m (wr:=u.mem) (λx c=>c) (λx e=>by rw[k]at e;cases e) (λx v c A=>J x v c A _) r y))
 have hN:∀g,zX nt C o g=some (rc,C',ob)->K (a.put o.dst undef) w:=λg h=>by
  have m:=f.grow (w':=w) ⟨rfl,rfl,rfl,qS _,λ_ _ _=>rfl⟩;unfold zX at h;split at h
  .rename_i d k;split at h<;>try (cases h;done)
   rename_i z;simp only[qk,kh]at h;obtain⟨rfl,rfl,rfl⟩:=h;refine hK W0 ok0 β _ w (f.next m ot (λx e=>by rw[k]at e;simp only[qk]at e;subst e;simp) (λx v c _=>?_) (f.FK.skip ot) (λx v c n I=>by simp only[js,kh]at c;obtain⟨_,rfl⟩:=c;cases I));simp only[js,kh]at c;obtain⟨rfl,rfl⟩:=c;exact⟨undef,by rw[k];exact Fg a d undef (by rw[f.sz];exact z),fI.v _⟩
  .rename_i k;simp only[qk,kh]at h;obtain⟨rfl,rfl,rfl⟩:=h;exact hK W0 ok0 β _ w (f.next m ot (λx e=>by rw[k]at e;cases e) ot f.FK ot)
 have Y:∀g,zW P T nt C σ o g=some (rc,C',ob)->∀x∈g,x∈rc.rd:=λg h x c=>by
  unfold zW at h;split at h<;>try (cases h;done)
  split at h
  .split at h<;>try (cases h;done)
   simp only[qk,kh]at h;obtain⟨rfl,_⟩:=h;simp[c]
  .simp only[qk,kh]at h;obtain⟨rfl,_⟩:=h;simp[c]
 have F:∀g,zX nt C o g=some (rc,C',ob)->∀x∈g,x∈rc.rd:=λg h x c=>by
  unfold zX at h;split at h
  .split at h<;>try (cases h;done)
   simp only[qk,kh]at h;obtain⟨rfl,_⟩:=h;exact c
  .simp only[qk,kh]at h;obtain⟨rfl,_⟩:=h;exact c
 unfold wpOp;rw[hi];simp only;unfold El at h;split at h
 .rename_i q;rw[if_pos (by simp[Region.wanted,q])];exact .inl (S _ h)
 .rename_i j W q;split at h<;>try (cases h;done)
  rename_i d k;have M:∀(x:cg) (v:cg),get σ (0,d)=some (.of (.one (.d (.v x))))->(0,d)∈rc.rd->a.tmps[d]?=some x:=λx v e c=>by have⟨u,O,X⟩:=f.rep (0,d) _ ot ((hag _ c).trans e);rw[bW X]at O;exact O
  split at h<;>try (cases h;done)
  .rename_i b e;split at h
   .rename_i L;subst L;have:=M _ undef e (Y _ h _ ot);rw[if_pos (by simp[Region.wanted,q,yielded,k,this])];exact .inl (S _ h)
   .rename_i L;have:=M _ undef e (F _ h _ ot);rw[if_neg (by simp[Region.wanted,q,yielded,k,this,L])];exact hN _ h
  .rename_i cs e;have:=M _ undef e (F _ h _ ot);rw[if_neg (by simp[Region.wanted,q,yielded,k,this])];exact hN _ h
end
def Ow{P:Program}{σ:St}{o:Oper}{T:Hints}{nt:Nat}{b:Array Oper}{C a:List Sp}{ob:Obl}{rc:Rec}(h:El P T nt b C σ o=some (rc,a,ob)):∀s∈a,s∈C:=by
 have c:∀g,zW P T nt C σ o g=some (rc,a,ob)->∀s∈a,s∈C:=λg h=>by
  unfold zW at h;split at h<;>try (cases h;done)
  rename_i u i f e;have:=TW e
  repeat' split at h
  all_goals first
   | (cases h;done)
   | (simp only[qk,kh]at h;obtain⟨_,rfl,_⟩:=h;exact this)
 have d:∀g,zX nt C o g=some (rc,a,ob)->∀s∈a,s∈C:=λg h=>by
  unfold zX at h
  repeat' split at h
  all_goals first
   | (cases h;done)
   | (simp only[qk,kh]at h;obtain⟨_,rfl,_⟩:=h;exact λ_ h=>h)
 unfold El at h
 repeat' split at h
 all_goals first
  | (cases h;done)
  | exact c _ h
  | exact d _ h
def acc (L:Nat->Bool):List Rec->Nat->St->St
 | [],_,σ=>σ
 | r::rs,i,σ=>acc L rs (i+1) (if L i then r.wr++σ else σ)
def get_hit:∀(l σ σ':St) (x:Loc),x∈l.map (·.1)->get (l++σ) x=get (l++σ') x
 | (k,u)::l,σ,σ',x,h=>by
  simp only[qd0,get];split
  .rfl
  .rename_i e;simp only[qc3,zr]at h;rcases h with h|h
   .exact absurd h.symm e
   .exact get_hit l σ σ' x h
def qw{L b:Nat->Bool}{x:Loc} : ∀(rs:List Rec) (i:Nat) (σ σ':St),get σ x=get σ' x->(∀(j:Nat) (r:Rec),rs[j]?=some r->x∈r.ws->L (i+j)=b (i+j))->get (acc L rs i σ) x=get (acc b rs i σ') x
 | [],i,σ,σ',h,_=>h
 | r::rs,i,σ,σ',h,c=>by
  simp only[acc];refine qw rs (i+1) _ _ ?_ (λj q d a=>by have:=c (j+1) q (by simpa using d) a;rwa [show i+(j+1)=i+1+j by omega]at this)
  by_cases a:x∈r.ws
  .have:=c 0 r rfl a;rw[qd3]at this;rw[this];split
   .exact get_hit _ _ _ _ a
   .exact h
  .split<;>split<;>simp only[get_skip _ _ _ a,h]
def acc_none:∀(rs:List Rec) (i:Nat) (σ:St) (L:Nat->Bool),(∀j,L (i+j)=false)->acc L rs i σ=σ
 | [],_,_,_,_=>rfl
 | r::rs,i,σ,L,h=>by have a:=h 0;rw[qd3]at a;simp only[acc,a];exact acc_none rs (i+1) σ L (λj=>by have:=h (j+1);rwa [show i+(j+1)=i+1+j by omega]at this)
def acc_succ:∀(rs:List Rec) (i b:Nat) (σ:St) (r:Rec),rs[i]?=some r->acc (λj=>decide (j<b+(i+1))) rs b σ=r.wr++acc (λj=>decide (j<b+i)) rs b σ
 | q::rs,0,b,σ,r,h=>by simp only[kA,qk]at h;subst h;simp only[acc];rw[acc_none rs (b+1) _ _ (λj=>vj),acc_none rs (b+1) _ _ (λj=>vj)];simp
 | q::rs,i+1,b,σ,r,h=>by simp only[acc];have:=acc_succ rs i (b+1) (q.wr++σ) r (by simpa using h);rw[if_pos vj,if_pos vj];simp only[show b+(i+1+1)=b+1+(i+1) by omega,show b+(i+1)=b+1+i by omega];exact this
def acc_all:∀(rs:List Rec) (b:Nat) (σ:St),acc (λj=>decide (j<b+rs.length)) rs b σ=rs.foldl (λs r=>r.wr++s) σ
 | [],_,_=>rfl
 | r::rs,b,σ=>by simp only[acc,jt,List.foldl_cons];rw[if_pos ot];have:=acc_all rs (b+1) (r.wr++σ);rwa [show b+1+rs.length=b+(rs.length+1) by omega]at this
section
variable {P:Program}{Wb W0:bx}{okb ok0:br}{ds:List Deferred}{nt:Nat}{β:Nat->Option Nat}{a:Act}{w:bx}{σ σ':St}{T:Hints}{C C':List Sp}{ob:Obl}{ops:Array Oper}{rs:List Rec}{Q:Exit->Act->bx->Prop}
def Inv.congr[pq](h:Inv Wb okb W0 ok0 ds nt β a w σ)(e:∀x,get σ x=get σ' x):Inv Wb okb W0 ok0 ds nt β a w σ' :=
 ⟨h.gr,h.new,h.inj,λk b f=>by rw[<-e];exact h.dom k b f,λx v c d=>h.rep x v c (by rw[e];exact d),h.XU,h.sz,h.nk,h.FK.congr (λq=>(e _).symm),λx v d n g=>by rw[<-e];exact h.hk x v (by rw[e];exact d) n g⟩
def Inv.drew[pq](h:Inv Wb okb W0 ok0 ds nt β a w σ):Inv Wb okb W0 ok0 ds nt β a { w with drawn:=w.drawn+1 } σ:=by have g:cm w { w with drawn:=w.drawn+1 } none:=⟨rfl,rfl,rfl,qS _,λ_ _ _=>rfl⟩;exact (h.next (h.grow g) (wr:=[]) (d:=none) (u:=undef) ot ot ot h.FK ot)
def evR_at:∀(l:List Oper) (C:List Sp) (σ σ':St) (C':List Sp) (ob:Obl) (rs:List Rec),Xg P T nt ops l C σ=some (σ',C',ob,rs) ->
 (∀s∈C',s∈C)/\rs.length=l.length/\σ'=rs.foldl (λs r=>r.wr++s) σ/\∀(i:Nat) (o:Oper),l[i]?=some o->∃r d f a,rs[i]?=some r/\El P T nt ops d (acc (λj=>decide (j<i)) rs 0 σ) o=some (r,f,a)/\(∀s∈d,s∈C)/\∀p∈a,p∈ob
 | [],C,σ,σ',C',ob,rs,h=>by simp only[Xg,qk,kh]at h;obtain⟨rfl,rfl,rfl,rfl⟩:=h;exact⟨λ_ h=>h,rfl,rfl,λi o h=>by simp at h⟩
 | o::l,C,σ,σ',C',ob,rs,h=>by
  simp only[Xg]at h;split at h<;>try (cases h;done)
  rename_i e n m t;split at h<;>try (cases h;done)
  rename_i σ2 H G c z;simp only[qk,kh]at h;obtain⟨rfl,rfl,rfl,rfl⟩:=h;have⟨B,D,E,F⟩:=evR_at l n (e.wr++σ) _ _ _ _ z;have u:=Ow t;refine⟨λs h=>u s (B s h),by simp[D],by simp[E],λi q k=>?_⟩
  cases i with
  | zero =>
   simp only[kA,qk]at k;subst k;refine⟨e,C,n,m,rfl,?_,λ_ h=>h,λp g=>by simp[g]⟩;rw[acc_none _ _ _ _ (λj=>ot)];exact t
  | succ i =>
   have⟨r,d,f,a,v,w,x,y⟩:=F i q (by simpa using k);refine⟨r,d,f,a,by simpa using v,?_,λs h=>u s (x s h),λp g=>by simp[y p g]⟩;simp only[acc];rw[if_pos ot];have : acc (λj=>decide (j<i+1)) c (0+1) (e.wr++σ)=acc (λj=>decide (j<i)) c 0 (e.wr++σ):=by
    have sh:∀(rs:List Rec) (b:Nat) (σ:St),acc (λj=>decide (j<i+1)) rs (b+1) σ=acc (λj=>decide (j<i)) rs b σ:=λrs=>by
     induction rs with
     | nil=>intros;rfl
     | cons r rs A =>
      intro b σ;simp only[acc,Nat.add_lt_add_iff_right];exact A _ _
    exact sh _ _ _
   rw[this];exact w
def Ou[pq](c:Inv Wb okb W0 ok0 ds nt β a w σ)(h:Xg P T nt ops ops.toList C σ=some (σ',C',ob,rs))(v:∀s∈C,Holds P s)(l:∀p∈ob,p.2)
 (hQ:∀g b β' f w',Inv Wb okb g b ds nt β' f w' σ'->Q .normal f w'):wpOps P ops Q (List.range ops.size) a w:=by
 have⟨_,B,D,E⟩:=evR_at _ _ _ _ _ _ _ h;have m:∀(n i:Nat) (W0:bx) (ok0:br) (β:Nat->Option Nat) (a:Act) (w:bx),i+n=ops.size->Inv Wb okb W0 ok0 ds nt β a w (acc (λj=>decide (j<i)) rs 0 σ)->wpOps P ops Q (List.range' i n) a w:=λn=>by
  induction n with
  | zero =>
   intro i W0 ok0 β a w x c;simp only[List.range'_zero,wpOps];refine hQ W0 ok0 β a w ?_;have e:i=0+rs.length:=by rw[B,qh6];omega
   rw[e,acc_all,<-D]at c;exact c
  | succ n A =>
   intro i W0 ok0 β a w x c;rw[List.range'_succ,wpOps_cons];have d:i<ops.size:=od
   have⟨r,G,H,F,o,q,t,u⟩:=E i ops[i] (by simp[d]);refine Co c (qb3 d) q (λs z=>v s (t s z)) (λp y=>l p (u p y)) (λ_ _=>rfl) (λ_ _=>rfl) (λg b β' f w' k=>A (i+1) g b β' f w' od ?_);have:=acc_succ rs i 0 σ r o;simp only[qa2]at this;rw[this];exact k
 have:=m ops.size 0 W0 ok0 β a w od (by rw[acc_none _ _ _ _ (λj=>ot)];exact c);rwa [List.range_eq_range']
def xR{a b:List Loc}{x:Loc}(c:x∈a)(d:x∈b):meets a b:=by unfold meets;rw[ja6];exact⟨x,c,by rw[ja6];exact⟨x,d,ot⟩⟩
def Dh{A:List Oper}{o:Oper}{r:Rec} : ∀(l:List Rec) (b:Nat),AZ A o r b l->∀(i:Nat) (q:Rec),l[i]?=some q->clash q r->waits A 9 o (b+i)
 | q::l,b,h,0,d,a,c=>by simp only[kA,qk]at a;subst a;simp only[AZ,qu,qe0,c]at h;simpa using h.1
 | q::l,b,h,i+1,d,a,c=>by simp only[AZ,qu]at h;have:=Dh l (b+1) h.2 i d (by simpa using a) c;rwa [show b+1+i=b+(i+1) by omega]at this
def TQ{A:List Oper}(os:List Oper):∀(rs dn:List Rec) (b:Nat),dn.length=b->calm A os rs dn b->∀(i:Nat) (o:Oper) (r:Rec),os[i]?=some o->rs[i]?=some r ->
 (∀e∈o.after.toList,Region.binds .any e->e.on<b+i)/\∀(k:Nat) (q:Rec),(dn++rs)[k]?=some q->k<b+i->clash q r->waits A 9 o k:=by
 induction os with
 | nil=>intro rs dn b _ _ i o r h;simp at h
 | cons o os p =>
  intro rs dn b d h i s t c a
  cases rs with
  | nil=>simp at a
  | cons r rs =>
   simp only[calm,qu,kB,qe0,qh7,kj]at h;have⟨⟨g,j⟩,l⟩:=h
   cases i with
   | zero =>
    simp only[kA,qk]at c a;subst c;subst a;refine⟨λe n d=>(j e n).resolve_left (by simp[d]),λk q f hk m=>?_⟩;have:=Dh dn 0 g k q (by rw[jz od]at f;exact f) m;rwa [qa2]at this
   | succ i =>
    have:=p rs (dn++[r]) (b+1) (by simp[d]) l i s t (by simpa using c) (by simpa using a);rw[show b+1+i=b+(i+1) by omega,ur,jb2]at this;exact this
def sP{A:List Oper}{L:Nat->Bool}(hc:∀(i:Nat) (o:Oper),A[i]?=some o->L i->∀k,edge o k->L k):∀(n:Nat) (o:Oper) (k:Nat),(∀k,edge o k->L k)->waits A n o k->L k
 | 0,_,_,_,h=>by cases h
 | n+1,o,k,b,h=>by
  simp only[waits,qe0,ja6,qu]at h;rcases h with h|⟨e,f,d,h⟩
  .exact b k h
  .cases a:A[e.on]? with
   | none=>rw[a]at h;cases h
   | some c =>
    rw[a]at h;refine sP hc n c k (hc e.on c a (b e.on ?_)) h;unfold edge;rw[ja6];exact⟨e,f,by simp[d]⟩
def M5[pq](I:Inv Wb okb W0 ok0 ds nt β a w σ)(h:Xg P T nt ops ops.toList C σ=some (σ',C',ob,rs))(N:calm ops.toList ops.toList rs [] 0)(hC:∀s∈C,Holds P s)(aq:∀p∈ob,p.2)
 (hQ:∀W1 R β' a' w',Inv Wb okb W1 R ds nt β' a' w' σ'->Q .normal a' w'):wpAny P .any ops Q ops.size (Array.replicate ops.size false) a w:=by
 have⟨_,k2,k3,k4⟩:=evR_at _ _ _ _ _ _ _ h;replace k2:rs.length=ops.size:=k2.trans qh6;have M:∀(i:Nat) (o:Oper) (r:Rec),ops[i]?=some o->rs[i]?=some r->(∀e∈o.after.toList,Region.binds .any e->e.on<i)/\∀(k:Nat) (q:Rec),rs[k]?=some q->k<i->clash q r->waits ops.toList 9 o k:=λi o r h1 h2=>by have:=TQ ops.toList rs [] 0 rfl N i o r (by simpa using h1) h2;simpa using this
 -- what is c waits for nothing
 have ax:∀(t:Nat) (c:Array Bool) (W0:bx) (ok0:br) (β:Nat->Option Nat) (a:Act) (w:bx),c.size=ops.size->((List.range ops.size).filter λi=>!c.getD i true).length<=t ->
  (∀(i:Nat) (o:Oper),ops[i]?=some o->c.getD i true->∀k,edge o k->c.getD k false) ->
  Inv Wb okb W0 ok0 ds nt β a w (acc (λj=>c.getD j false) rs 0 σ)->wpAny P .any ops Q t c a w:=λt=>by
  have done:∀(c:Array Bool) (W0:bx) (ok0:br) (β:Nat->Option Nat) (a:Act) (w:bx),c.size=ops.size->Region.ready .any ops c=[]->Inv Wb okb W0 ok0 ds nt β a w (acc (λj=>c.getD j false) rs 0 σ)->Q .normal a w:=λc W0 ok0 β a w g U I=>by
   have ad:∀n i,i<n->i<ops.size->c.getD i false:=λn=>by
    induction n with
    | zero=>intro i G;omega
    | succ n ih =>
     intro i G d
     by_cases hc:c.getD i true
     .simpa[ye,g,d]using hc
     .exfalso;have v:i∈Region.ready .any ops c:=by
       unfold Region.ready;rw[jd2];refine⟨by simpa using d,?_⟩;have⟨r,_,_,_,au,_⟩:=k4 i ops[i] (by simp[d]);have ar:=(M i ops[i] r (qb3 d) au).1;simp only[qb3 d,qh0,jb5,qu,qh7,jc3];refine⟨by simpa using hc,λe W=>?_⟩
       cases V:Region.binds .any e with
       | false=>rfl
       | true =>
        have:=ar e (by simpa using W) V;rw[ih e.on od od];rfl
      rw[U]at v;cases v
   refine hQ W0 ok0 β a w (I.congr (λx=>?_));rw[k3,<-acc_all rs 0 σ];refine qw rs 0 σ σ rfl (λj r B _=>?_);have d:j<ops.size:=by rw[<-k2];exact (qv.1 B).1
   rw[qa2,ad (j+1) j od d];simp;omega
  induction t with
  | zero =>
   intro c W0 ok0 β a w g F f I;have K:((List.range ops.size).filter λi=>!c.getD i true)=[]:=jx od;have U:Region.ready .any ops c=[]:=by unfold Region.ready;rw[List.filter_eq_nil_iff]at K|-;intro i G;have:=K i G;simp only[Bool.not_eq_true,Bool.not_eq_false']at this;simp[this]
   exact⟨U,done c W0 ok0 β a w g U I⟩
  | succ t ih =>
   intro c W0 ok0 β a w g F f I;refine⟨λU=>done c W0 ok0 β a w g U I,λi G=>?_⟩;unfold Region.ready at G;rw[jd2]at G;have⟨X,Y⟩:=G;have d:i<ops.size:=by simpa using X
   simp only[qb3 d,qh0,jb5,qu,qh7,jc3]at Y;have⟨ab,E⟩:=Y;have y:∀k,edge ops[i] k->c.getD k false:=λk S=>by unfold edge at S;rw[ja6]at S;have⟨e,W,V⟩:=S;simp only[qu,beq_iff_eq]at V;have:=E e (by simpa using W);simp only[V.1,Bool.not_true,Bool.false_or]at this;rw[<-V.2];exact this
   have m:∀(i:Nat) (o:Oper),ops.toList[i]?=some o->c.getD i false->∀k,edge o k->c.getD k false:=λi o h1 h2=>f i o (by simpa using h1) (by
    have : i<ops.size:=by simpa using (qv.1 h1).1
    simpa[ye,g,this]using h2)
   have L:c.getD i false=false:=by simpa[ye,g,d]using ab
   have⟨r,Ci,Cj,ay,e1,e2,e3,e4⟩:=k4 i ops[i] (by simp[d]);have ai:=M i ops[i] r (qb3 d) e1
   -- writers of what it touches
   have wr:∀x,(x∈r.rd\/x∈r.ws)->∀(j:Nat) (q:Rec),rs[j]?=some q->x∈q.ws->c.getD j false=decide (j<i):=λx l j q A D=>by
    have B:j<ops.size:=by rw[<-k2];exact (qv.1 A).1
    rcases Nat.lt_trichotomy j i with J|rfl|aj
    .have O:clash q r:=by
      unfold clash;rcases l with l|l
      .rw[xR D l];rfl
      .rw[xR D l];simp
     rw[sP m _ _ j y (ai.2 j q A J O)];simp[J]
    .rw[L];simp
    .have O:clash r q:=by
      unfold clash;rcases l with l|l
      .rw[xR l D];simp
      .rw[xR l D];simp
     have W:=(M j ops[j] q (qb3 B) A).2 i r e1 aj O
     cases hL:c.getD j false with
     | false=>simp;omega
     | true =>
      have ah:c.getD j true:=by simpa[ye,g,B]using hL
      have:=sP m _ _ i (f j ops[j] (qb3 B) ah) W;rw[L]at this;cases this
   have z:∀x,(x∈r.rd\/x∈r.ws)->get (acc (λj=>c.getD j false) rs 0 σ) x=get (acc (λj=>decide (j<i)) rs 0 σ) x:=λx l =>
    qw rs 0 σ σ rfl (λj q A D=>by rw[qa2];exact wr x l j q A D)
   refine Co I (qb3 d) e2 (λs hs=>hC s (e3 s hs)) (λp hp=>aq p (e4 p hp)) (λx l=>z x (.inl l)) (λx l=>z x (.inr l)) (λW1 R β' a' w' ae=>?_);have u:∀(j:Nat) (b:Bool),(c.setIfInBounds i true).getD j b=if j=i then true else c.getD j b:=λj b=>by
    simp only[ye,Array.getElem?_setIfInBounds]
    by_cases e:i=j
    .subst e;simp[g,d]
    .simp[e,Ne.symm e]
   refine ih (c.setIfInBounds i true) W1 R β' a' w' (by simpa using g) ?_ ?_ (ae.congr (λx=>?_))
   .have v:i∈(List.range ops.size).filter λi=>!c.getD i true:=by rw[jd2];exact⟨X,by simp[ab]⟩
    have aa:((List.range ops.size).filter λj=>!(c.setIfInBounds i true).getD j true)=(((List.range ops.size).filter λj=>!c.getD j true)).filter (λj=>decide (j≠i)):=by
     rw[List.filter_filter];refine List.filter_congr (λj _=>?_);rw[u]
     by_cases e:j=i<;>simp[e]
    rw[aa];have : ((((List.range ops.size).filter λj=>!c.getD j true)).filter (λj=>decide (j≠i))).length<((List.range ops.size).filter λj=>!c.getD j true).length :=
     List.length_filter_lt_length_iff_exists.2 ⟨i,v,ot⟩
    omega
   .intro j o B Z k S;rw[u];rw[u]at Z
    by_cases ek:k=i
    .simp[ek]
    .rw[if_neg ek]
     by_cases H:j=i
     .subst H;rw[qb3 d]at B;simp only[qk]at B;subst B;exact y k S
     .rw[if_neg H]at Z;exact f j o B Z k S
   .by_cases l:x∈r.ws
    .have s1:=acc_succ rs i 0 σ r e1;simp only[qa2]at s1;rw[get_hit r.wr _ (acc (λj=>decide (j<i)) rs 0 σ) x l,<-s1];refine qw rs 0 σ σ rfl (λj q A D=>?_);rw[qa2,u]
     by_cases H:j=i
     .simp[H]
     .rw[if_neg H,wr x (.inr l) j q A D];simp;omega
    .rw[get_skip _ _ _ l];refine qw rs 0 σ σ rfl (λj q A D=>?_);rw[qa2,u]
     by_cases H:j=i
     .subst H;rw[e1]at A;simp only[qk]at A;subst A;exact absurd D l
     .rw[if_neg H]
 refine ax ops.size _ W0 ok0 β a w ot (km (List.length_filter_le _ _) ot) ?_ ?_
 .intro i o G Z;have d:i<ops.size:=(qq.1 G).1;simp[ye,d]at Z
 .rw[acc_none]
  .exact I
  .intro j;simp only[ye,Array.getElem?_replicate];split<;>rfl
end
def exOf:Nat->Exit
 | 0=>.normal
 | 1=>.ret
 | n+2=>.exit n
def tL (P:Program) (c:Code) (Q:Exit->Act->bx->Prop) (a:Act) (w:bx):Prop :=
 ∀(b:Frame) (k:List Item) (cs:List Frame),∃e a' w',Q e a' w'/\Arrives P (lone (b.at a (.code c :: .inLoop c::k)) cs w) b k cs e a' w'
def tL.wp{P:Program}{c:Code}{Q:Exit->Act->bx->Prop}{a:Act}{w:bx}(h:tL P c Q a w):(Code.loop c).wp P Q a w :=
 λb k cs=>let ⟨e,d,f,q,r⟩:=h b k cs;⟨e,d,f,q,.of_steps (.one step_loop) r⟩
def tL.round{P:Program}{c:Code}{Q:Exit->Act->bx->Prop}{a:Act}{w:bx}(h:c.wp P (Exit.then (tL P c Q) Q) a w):tL P c Q a w:=by
 intro b k cs;have⟨e,a₁,w₁,f,d⟩:=h b (.inLoop c::k) cs
 cases e with
 | normal =>
  have⟨e₂,a₂,w₂,hq₂,harr₂⟩:=f b k cs;exact⟨e₂,a₂,w₂,hq₂,.of_steps (Steps.trans d (.one step_inLoop)) harr₂⟩
 | exit i=>exact⟨_,a₁,w₁,f,.pass (x:=.inLoop c) rfl (λ_ _=>.inl ot) d⟩
 | goto l=>exact⟨_,a₁,w₁,f,.pass (x:=.inLoop c) rfl (λ_ _=>.inl ot) d⟩
 | ret=>exact⟨_,a₁,w₁,f,.pass (x:=.inLoop c) rfl (λ_ _=>.inl ot) d⟩
 | panic g=>exact⟨_,a₁,w₁,f,.pass (x:=.inLoop c) rfl (λ_ _=>.inl ot) d⟩
 | outgrown=>exact⟨_,a₁,w₁,f,.pass (x:=.inLoop c) rfl (λ_ _=>.inl ot) d⟩
def vO [pq] (P:Program) (nt:Nat) (l:Lp):Prop:=∀(Wb:bx) (okb:br) (W0:bx) (ok0:br) (ds:List Deferred) (β:Nat->Option Nat) (a:Act) (w:bx) (Q:Exit->Act->bx->Prop),Inv Wb okb W0 ok0 ds nt β a w l.pre->(∀W1 ok1 β' a' w',Inv Wb okb W1 ok1 ds nt β' a' w' l.post->Q (exOf l.ex) a' w')->tL P l.body Q a w
section
variable {P:Program}{Wb W0:bx}{okb ok0:br}{ds:List Deferred}{nt:Nat}{T:Hints}{L:List Lp}
def get_mem:∀(S:St) (x:Loc) (v:AV),get S x=some v->(x,v)∈S
 | (k,u)::r,x,v,h=>by
  simp only[get]at h;split at h
  .rename_i e;simp only[qk]at h;subst e;subst h;simp
  .simp[get_mem r x v h]
def Vf (σ:St) (k:Nat):Nat:=if ZW σ=false/\(3000000<=k/\k<4000000)/\(get σ (k - 1000000+1,0)).isSome then k - 1000000 else k
def CZ{σ:St}{k:Nat}(h:k<3000000):Vf σ k=k:=if_neg (λe=>od)
def aaF(k:Nat)(h:3000001<=k+1):k+1 - 1000000=k - 1000000+1:=od
def aaB{k a:Nat}(e:k - 1000000=a)(h:3000001<=k+1)(b:k+1<=4000000):2000000<=k/\2000000<=a/\3000000<=k/\k<4000000:=od
def Wj{k:Nat}(h:2000000<=k):k+1≠1000001:=od
def aaD{σ:St}{k b:Nat}(hn:ZW σ=false)(a:Wm σ k=some b)(d:(get σ (k+1,0)).isSome)(f:b<4000000):Vf σ b=k:=by
 unfold Wm at a;split at a
 .simp only[qk]at a;subst a;exact CZ od
 .split at a
  .simp only[qk]at a;have e:b - 1000000=k:=by omega
   unfold Vf;rw[e];exact if_pos ⟨hn,od,d⟩
  .split at a
   .rename_i c;simp only[qk]at a;subst a;exact if_neg (λe=>by rw[qa4.1 c]at e;cases e.2.2)
   .cases a
def Inv.forget[pq]{β:Nat->Option Nat}{a:Act}{w:bx}{σ S:St}(h:Inv Wb okb W0 ok0 ds nt β a w σ)(hk:∀e∈S,L6 σ e.1=some e.2)(hc:S.all (λe=>LB S e.2&&(e.1.1==0||(get S (e.1.1,0)).isSome)))(ah:(get σ (1000001,0)).isNone):∃β',Inv Wb okb W0 ok0 ds nt β' a w S:=by
 let β':Nat->Option Nat:=λk=>if (get S (k+1,0)).isSome then β (Vf σ k)else none
 have H:∀k b,β' k=some b->β (Vf σ k)=some b/\(get S (k+1,0)).isSome:=λk b e=>by
  simp only[β']at e;split at e
  .rename_i Q;exact⟨e,Q⟩
  .cases e
 have ay:∀{k:Nat},(get S (k+1,0)).isSome->∃v,L6 σ (k+1,0)=some v/\get S (k+1,0)=some v:=λ{k} Q=>by obtain⟨v,J⟩:=qg5.1 Q;exact⟨v,hk _ (get_mem S _ v J),J⟩
 have V:∀{k:Nat},(get S (k+1,0)).isSome->ZW σ=false->2000000<=k->3000000<=k/\k<4000000:=λ{k} Q m Y=>by
  obtain⟨v,J,_⟩:=ay Q;unfold L6 at J;rw[m,if_neg ot,if_neg vu]at J;split at J
  .rename_i h3;simp only at h3;omega
  .cases J
 have aq:∀{k L:Nat},(get S (k+1,0)).isSome->(get S (L+1,0)).isSome->Vf σ k=Vf σ L->k=L:=λ{k L} Q aO e=>by
  unfold Vf at e;split at e<;>split at e
  .omega
  .rename_i c1 c2;have:=V aO c1.1 od;exfalso;omega
  .rename_i c1 c2;have:=V Q c2.1 od;exfalso;omega
  .exact e
 have ab:zH (okB W0.heap.size ok0 β) w (okB W0.heap.size ok0 β') w:=⟨qS _,λb O ho=>⟨by
  rcases ho with ho|ho
  .exact .inl ho
  .exact .inr ⟨ho.1,λk e=>ho.2 _ (H k b e).1⟩,λ_=>rfl⟩⟩
 have hX:∀(x N:X) (v:cg),(N=x/\ZW σ\/N=aak σ x/\ZW σ=false)->kept S N->(∀n∈x.keys,(get σ (n+1,0)).isSome)->jm β (okB W0.heap.size ok0 β) w x v->jm β' (okB W0.heap.size ok0 β') w N v:=λx N v D P F B=>by
  have ae:∀k,ZW σ->Vf σ k=k:=λk m=>if_neg (λe=>by rw[m]at e;cases e.1);have ad:∀{k L:Nat},ZW σ=false->Wm σ k=some L->(get σ (k+1,0)).isSome->∀b,β' L=some b->β k=some b:=λ{k L} m B Q b O=>by
   obtain⟨s,C⟩:=H L b O;have h4:L<4000000:=by
    rcases jf5 L 2000000 with h|h
    .omega
    .exact (V C m h).2
   rwa [aaD m B Q h4]at s
  cases x with
  | p k q =>
   obtain rfl:N =.p k q:=by rcases D with D|D<;>exact D.1
   obtain⟨b,s,C⟩:=B;refine⟨b,⟨?_,s.2⟩,C⟩;simp only[β'];rw[if_pos (show (get S (k+1,0)).isSome from P),CZ od];exact s.1
  | d y =>
   obtain rfl:N =.d y:=by rcases D with D|D<;>exact D.1
   exact fI.keep B ab
  | e cs q =>
   obtain rfl:N =.e cs q:=by rcases D with D|D<;>exact D.1
   exact jm.u6 (β:=λ_=>none) ab (λ_ _ _ e=>by cases e) (.e cs q) v (λn m=>by cases m) B
  | f n es =>
   obtain rfl:N =.f n es:=by rcases D with D|D<;>exact D.1
   exact jm.u6 (β:=λ_=>none) ab (λ_ _ _ e=>by cases e) (.f n es) v (λn m=>by cases m) B
  | g k n l =>
   obtain⟨b0,c,s,C,K⟩:=B;rcases D with⟨rfl,m⟩|⟨rfl,m⟩
   .exact⟨b0,c,s,C,λb O=>K b (by have:=(H k b O).1;rwa [ae k m]at this)⟩
   .simp only[aak]
    cases ai:Wm σ k with
    | none=>subst s;exact fI.t _ rfl
    | some L=>exact⟨b0,c,s,C,λb O=>K b (ad m ai (F k vq) b O)⟩
  | q k o =>
   obtain⟨b0,s,K⟩:=B;rcases D with⟨rfl,m⟩|⟨rfl,m⟩
   .exact⟨b0,s,λb O=>K b (by have:=(H k b O).1;rwa [ae k m]at this)⟩
   .simp only[aak]
    cases ai:Wm σ k with
    | none=>subst s;exact fI.t _ rfl
    | some L=>exact⟨b0,s,λb O=>K b (ad m ai (F k vq) b O)⟩
 have hA:∀(x N:A1) (v:cg),(N=x/\ZW σ\/N=aaj σ x/\ZW σ=false)->N.xs.all (kept S)->(∀n∈x.keys,(get σ (n+1,0)).isSome)->gm β (okB W0.heap.size ok0 β) w x v->gm β' (okB W0.heap.size ok0 β') w N v:=λx N v D P F B=>by
  cases x with
  | one y =>
   rcases D with⟨rfl,m⟩|⟨rfl,m⟩
   .exact hX y y v (.inl ⟨rfl,m⟩) (by simpa[A1.xs]using P) F B
   .exact hX y _ v (.inr ⟨rfl,m⟩) (by simpa[A1.xs,aaj]using P) F B
  | agg ys =>
   obtain⟨vs,e,hl⟩:=B;have I:∀y∈ys,∀n∈y.keys,(get σ (n+1,0)).isSome:=λy hy n m=>F n (by simp only[A1.keys,qc1];exact⟨y,hy,m⟩);rcases D with⟨rfl,m⟩|⟨rfl,m⟩
   .refine⟨vs,e,dU.of hl.length (λi y u s C=>?_)⟩;obtain⟨u',K,W⟩:=hl.get _ _ s;rw[K]at C;simp only[qk]at C;subst C;exact hX y y _ (.inl ⟨rfl,m⟩) (kB.1 P _ (zj s)) (I y (zj s)) W
   .refine⟨vs,e,dU.of (by rw[qf3];exact hl.length) (λi y u s C=>?_)⟩;have hm:=zj s;simp only[qb7,kd]at s;obtain⟨z,s,rfl⟩:=s;obtain⟨u',K,W⟩:=hl.get _ _ s;rw[K]at C;simp only[qk]at C;subst C;exact hX z _ _ (.inr ⟨rfl,m⟩) (kB.1 P _ hm) (I z (zj s)) W
 refine⟨β',h.gr,λk b e=>h.new _ b (H k b e).1,λk L b e e'=>aq (H k b e).2 (H L b e').2 (h.inj _ _ b (H k b e).1 (H L b e').1),λk b e=>(H k b e).2,λx v au D=>?_,h.XU,h.sz,?_,⟨λ_=>⟨(h.FK.1 (qa4.1 ah)).1,λk b e=>(h.FK.1 (qa4.1 ah)).2 _ b (H k b e).1⟩,λv J=>?_⟩,λx v D n m=>?_⟩
 .have hm:=get_mem S x v D;have E:=kB.1 hc _ hm;simp only[qu,qe0]at E;have G:=hk _ hm;simp only at G
  -- a place that is no list's
  have low:∀Z,x.1<2000000->get σ x=some Z->(v=Z/\ZW σ\/v=aa8 σ Z/\ZW σ=false)->EH β' (okB W0.heap.size ok0 β') a w x v:=λZ U R J=>by
   have B:=h.rep x Z au R;have F:=h.hk x Z R;obtain⟨k,q⟩:=x
   cases k with
   | zero =>
    obtain⟨u,s,C⟩:=B;refine⟨u,s,?_⟩
    cases Z with
    | of y =>
     rcases J with⟨rfl,m⟩|⟨rfl,m⟩
     .exact hA y y u (.inl ⟨rfl,m⟩) E.1 F C
     .exact hA y _ u (.inr ⟨rfl,m⟩) E.1 F C
    | rz ys =>
     obtain⟨vs,e,hl⟩:=C;have I:∀y∈ys,∀n∈y.keys,(get σ (n+1,0)).isSome:=λy hy n m=>F n (by simp only[AV.keys,qc1];exact⟨y,hy,m⟩);rcases J with⟨rfl,m⟩|⟨rfl,m⟩
     .refine⟨vs,e,dU.of hl.length (λi y u s C=>?_)⟩;obtain⟨u',K,W⟩:=hl.get _ _ s;rw[K]at C;simp only[qk]at C;subst C;exact hA y y _ (.inl ⟨rfl,m⟩) (kB.1 E.1 _ (zj s)) (I y (zj s)) W
     .refine⟨vs,e,dU.of (by rw[qf3];exact hl.length) (λi y u s C=>?_)⟩;have aC:=zj s;simp only[qb7,kd]at s;obtain⟨z,s,rfl⟩:=s;obtain⟨u',K,W⟩:=hl.get _ _ s;rw[K]at C;simp only[qk]at C;subst C;exact hA z _ _ (.inr ⟨rfl,m⟩) (kB.1 E.1 _ aC) (I z (zj s)) W
    | vT _ _ _=>exact C.elim
    | dead=>exact C.elim
   | succ k =>
    simp only at U
    cases Z with
    | vT el n es=>have:=B.2;obtain⟨_,_,_,O,_⟩:=this;omega
    | dead =>
     obtain rfl:v =.dead:=by rcases J with J|J<;>exact J.1
     trivial
    | rz az=>obtain⟨b,u2,y,H,Y,_⟩:=B;cases Y
    | of A =>
     obtain⟨b,u,y,s,C,K,W,e5⟩:=B;simp only[AV.of.injEq]at C;subst C;have Q:(get S (k+1,0)).isSome:=by simpa using E.2
     have aj:β' k=some b/\k<1000000:=⟨by simp only[β'];rw[if_pos Q,CZ od];exact s.1,s.2⟩;rcases J with⟨rfl,m⟩|⟨rfl,m⟩
     .exact⟨b,u,y,aj,rfl,K,W,hX y y u (.inl ⟨rfl,m⟩) (by simpa[LB,A1.xs]using E.1) F e5⟩
     .exact⟨b,u,_,aj,rfl,K,W,hX y _ u (.inr ⟨rfl,m⟩) (by simpa[LB,aa8,aaj,A1.xs]using E.1) F e5⟩
  -- a list's place
  have high:∀k q T,x=(k+1,q)->Vf σ k=T->2000000<=k->2000000<=T->get σ (T+1,q)=some v->EH β' (okB W0.heap.size ok0 β') a w x v:=λk q T ex Q Y h3 R=>by
   subst ex;have B:=h.rep (T+1,q) v (λe=>by have e:T+1=1000001:=e;omega) R
   cases v with
   | vT el n es =>
    obtain⟨rfl,hL⟩:=B;obtain⟨b,cs,c,O,B⟩:=hL;refine⟨rfl,b,cs,c,⟨?_,Y⟩,B.1,B.2.1,B.2.2.1,B.2.2.2.1,B.2.2.2.2.1,B.2.2.2.2.2.1,λi r j x s C=>?_⟩
    .simp only[β'];rw[D,Q];exact O.1
    .obtain⟨u,u1,u2⟩:=B.2.2.2.2.2.2 i r j x s C;exact⟨u,u1,u2.keep ab⟩
   | dead=>trivial
   | rz az=>obtain⟨b,u2,y,H,Y,_⟩:=B;cases Y
   | of A=>obtain⟨b,u2,y,H,_⟩:=B;omega
  unfold L6 at G;split at G
  .rename_i m;rcases jf5 x.1 2000000 with U|ba
   .exact low v U G (.inl ⟨rfl,m⟩)
   .have:=kB.1 m _ (get_mem σ x v G);simp only[kj]at this;omega
  .rename_i m;have m:ZW σ=false:=by simpa using m
   split at G
   .rename_i U;simp only[kd]at G;obtain⟨Z,R,rfl⟩:=G;exact low Z U R (.inr ⟨rfl,m⟩)
   .split at G
    .rename_i h3;obtain⟨k,q⟩:=x;simp only at h3 G au
     cases k with
     | zero=>omega
     | succ k =>
      obtain⟨T,aa⟩:∃T,k - 1000000=T:=⟨_,rfl⟩;rw[aaF k h3.1,aa]at G;have M:2000000<=k/\2000000<=T/\3000000<=k/\k<4000000:=aaB aa h3.1 h3.2;split at G
      .rename_i v2 R;simp only[qk]at G;subst G;have hq:q=0\/v2 =.dead:=by
        have B:=h.rep (T+1,q) v2 (Wj M.2.1) R
        cases v2 with
        | vT _ _ _=>exact .inl B.1
        | dead=>exact .inr rfl
        | rz az=>obtain⟨b,u2,y,H,Y,_⟩:=B;cases Y
        | of A=>obtain⟨b,u2,y,H,_⟩:=B;exact absurd H.2 od
       rcases hq with rfl|rfl
       .exact high k 0 T rfl (by unfold Vf;rw[aa];exact if_pos ⟨m,M.2.2,by rw[R];rfl⟩) M.1 M.2.1 R
       .trivial
      .rename_i R;have hq:q=0\/v =.dead:=by
        have B:=h.rep (k+1,q) v (Wj M.1) G
        cases v with
        | vT _ _ _=>exact .inl B.1
        | dead=>exact .inr rfl
        | rz az=>obtain⟨b,u2,y,H,Y,_⟩:=B;cases Y
        | of A=>obtain⟨b,u2,y,H,_⟩:=B;exact absurd H.2 od
       rcases hq with rfl|rfl
       .exact high k 0 k rfl (by unfold Vf;rw[aa];exact if_neg (λe=>by rw[R]at e;cases e.2.2)) M.1 M.1 G
       .trivial
    .cases G
 .simp only[β'];split
  .rw[CZ od];exact h.nk
  .rfl
 .have G:=hk _ (get_mem S _ v J);unfold L6 at G;rw[qa4.1 ah]at G;split at G
  .cases G
  .rw[if_pos ot]at G;cases G
 .have E:=kB.1 hc _ (get_mem S x v D);simp only[qu]at E;have ax:∀(A:A1),A.xs.all (kept S)->n∈A.keys->(get S (n+1,0)).isSome:=λA hA m=>by
   have : ∃y∈A.xs,n∈y.keys:=by
    cases A with
    | one y=>exact⟨y,by simp[A1.xs],m⟩
    | agg ys=>simp only[A1.keys,qc1]at m;exact m
   obtain⟨y,hy,m⟩:=this;have ar:=kB.1 hA y hy
   cases y with
   | g k _ _=>simp only[X.keys,js]at m;subst m;exact ar
   | q k _=>simp only[X.keys,js]at m;subst m;exact ar
   | _=>cases m
  cases v with
  | of A=>exact ax A E.1 m
  | rz az =>
   simp only[AV.keys,qc1]at m;obtain⟨A,hA,m⟩:=m;exact ax A (kB.1 E.1 A hA) m
  | _=>cases m
def rG[pq](V:∀l∈L,vO P nt l)(Z:P.follows .mixedOrders)(c:Code):∀(C:List Sp) (σ:St) (e:Nat) (σ':St) (C':List Sp) (ob:Obl),Dt P T L nt c C σ=some (e,σ',C',ob)->(∀s∈C,Holds P s)->(∀p∈ob,p.2) ->
 (∀s∈C',s∈C)/\∀(W0:bx) (ok0:br) (β:Nat->Option Nat) (a:Act) (w:bx) (Q:Exit->Act->bx->Prop),Inv Wb okb W0 ok0 ds nt β a w σ->(∀r j β' k w',Inv Wb okb r j ds nt β' k w' σ'->Q (exOf e) k w')->c.wp P Q a w:=by
 induction c with
 | skip =>
  intro C σ e σ' C' ob h g b;simp only[Dt,qk,kh]at h;obtain⟨rfl,rfl,rfl,rfl⟩:=h;exact⟨λ_ h=>h,λW0 ok0 β a w Q d f=>wp_skip (f W0 ok0 β a w d)⟩
 | region M ops A =>
  intro C σ e σ' C' ob h g b;simp only[Dt]at h;split at h<;>try (cases h;done)
  rename_i σ2 N B rs I;split at h<;>try (cases h;done)
  rename_i X;simp only[qk,kh]at h;obtain⟨rfl,rfl,rfl,rfl⟩:=h;refine⟨(evR_at _ _ _ _ _ _ _ I).1,λW0 ok0 β a w Q d f=>?_⟩
  cases A with
  | false=>exact wp_region (Ou d I g b f)
  | true=>exact wp_region_any Z (M5 d.drew I (by simpa using X) g b f)
 | seq x y o u =>
  intro C σ e σ' C' ob h g b;simp only[Dt]at h;split at h
  .rename_i σ1 C1 aa U;split at h<;>try (cases h;done)
   rename_i O σ2 N B D;simp only[qk,kh]at h;obtain⟨rfl,rfl,rfl,rfl⟩:=h;have⟨m,q⟩:=o _ _ _ _ _ _ U g (λp H=>b p (by simp[H]));have⟨s2,k2⟩:=u _ _ _ _ _ _ D (λs J=>g s (m s J)) (λp H=>b p (by simp[H]));exact⟨λs J=>m s (s2 s J),λW0 ok0 β a w Q d f=>wp_seq (q W0 ok0 β a w _ d (λr j β' k w' i=>k2 r j β' k w' Q i f))⟩
  .rename_i G;have⟨m,q⟩:=o _ _ _ _ _ _ h g b;refine⟨m,λW0 ok0 β a w Q d f=>wp_seq (q W0 ok0 β a w _ d (λr j β' k w' i=>?_))⟩;have:=f r j β' k w' i
   match e,h,this with
   | 0,h,_=>exact absurd h (G _ _ _)
   | 1,_,t=>exact t
   | n+2,_,t=>exact t
 | cond c x y o u =>
  intro C σ e σ' C' ob h g b;simp only[Dt]at h;split at h<;>try (cases h;done)
  .rename_i z;have⟨m,q⟩:=o _ _ _ _ _ _ h g b;exact⟨m,λW0 ok0 β a w Q d f=>wp_cond_true (bW (ET z (λt _ v K=>d.rep _ _ ot K))) (q W0 ok0 β a w Q d f)⟩
  .rename_i z;have⟨m,q⟩:=u _ _ _ _ _ _ h g b;exact⟨m,λW0 ok0 β a w Q d f=>wp_cond_false (bW (ET z (λt _ v K=>d.rep _ _ ot K))) (q W0 ok0 β a w Q d f)⟩
 | block M c R =>
  intro C σ e σ' C' ob h g b;simp only[Dt]at h;split at h<;>try (cases h;done)
  rename_i O σ2 N B D;simp only[qk,kh]at h;obtain⟨rfl,rfl,rfl,rfl⟩:=h;have⟨m,q⟩:=R _ _ _ _ _ _ D g b;refine⟨m,λW0 ok0 β a w Q d f=>wp_block (q W0 ok0 β a w _ d (λr j β' k w' i=>?_))⟩;have:=f r j β' k w' i
  match O,this with
  | 0,t=>exact (by simpa using t:Q (exOf 0) k w')
  | 1,t=>exact (by simpa using t:Q (exOf 1) k w')
  | n+2,t =>
   simp only[exOf,Exit.inBlock]
   by_cases F:n=M
   .subst F;simpa[exOf]using t
   .rw[if_neg F];simpa[F,exOf]using t
 | exit M =>
  intro C σ e σ' C' ob h g b;simp only[Dt,qk,kh]at h;obtain⟨rfl,rfl,rfl,rfl⟩:=h;exact⟨λ_ h=>h,λW0 ok0 β a w Q d f=>wp_exit (f W0 ok0 β a w d)⟩
 | ret =>
  intro C σ e σ' C' ob h g b;simp only[Dt,qk,kh]at h;obtain⟨rfl,rfl,rfl,rfl⟩:=h;exact⟨λ_ h=>h,λW0 ok0 β a w Q d f=>wp_ret (f W0 ok0 β a w d)⟩
 | loop c R =>
  intro C σ e σ' C' ob h g b;simp only[Dt]at h;split at h<;>try (cases h;done)
  rename_i l E;split at h<;>try (cases h;done)
  rename_i z;simp only[qk,kh]at h;obtain⟨rfl,rfl,rfl,rfl⟩:=h;refine⟨λ_ h=>h,λW0 ok0 β a w Q d f=>?_⟩;have W:l.body=c:=b (true,_) (List.mem_cons_self ..);have⟨β',i⟩:=d.forget (S:=l.pre) (λe Y=>b (true,_) (by simp only[zr,known,ud];exact .inr ⟨e,Y,rfl⟩)) z.1 z.2;have:=(V l (List.mem_of_find?_eq_some E) Wb okb W0 ok0 ds β' a w Q i f).wp;rwa [W]at this
 | _=>intro C σ e σ' C' ob h;simp[Dt]at h
def qU[pq]{β:Nat->Option Nat}{a:Act}{w:bx}{σ:St}{r:ResultVar}{A:A1}(l:Inv Wb okb W0 ok0 ds nt β a w σ)(g:ResultVar->Sem cg)(p:∀t,g (.tmp t)=pure (a.tmps.getD t undef))(s:∀x t,g (.cell x t)=do loadVar t (<-asAddr (a.tmps.getD x undef)))(h:Ie P σ r=some A) :
 ∃u,(g r).run P w =.ok u w/\gm β (okB W0.heap.size ok0 β) w A u:=by
 unfold Ie at h;split at h
 .rename_i t;split at h<;>try (cases h;done)
  rename_i I e;simp only[qk]at h;subst h;have⟨u,c,f⟩:=l.rep _ _ ot e;exact⟨u,by rw[p];simp[ye,c],f⟩
 .rename_i x t;split at h<;>try (cases h;done)
  rename_i k q d i e E C;split at h<;>try (cases h;done)
  split at h<;>try (cases h;done)
  rename_i v m;simp only[qk]at h;subst h;have⟨K,c,f⟩:=qf5.1 m;obtain⟨u,o,b,y,rfl⟩:=l.rep _ _ ot e;have⟨D,J,n,B⟩:=EL l y c (λ_ _=>rfl);have⟨z,F,G,H⟩:=E9 f n;have:=uJ (P:=P) (w:=w) (b:=b) (q:=q) E C (n.length.trans (mJ _ _ _ c).1) (λj v m=>(B j v m).1) G H;exact⟨z,by rw[s];simp[ye,o,asAddr,this],F⟩
def yS[pq]{β:Nat->Option Nat}{a:Act}{w:bx}{σ:St}{r:ResultVar}{A:A1×Obl}(c:Inv Wb okb W0 ok0 ds nt β a w σ)(g:ResultVar->Sem cg)(i:∀t,g (.tmp t)=pure (a.tmps.getD t undef))(j:∀x t,g (.cell x t)=do loadVar t (<-asAddr (a.tmps.getD x undef)))(h:Mh P σ r=some A)(f:∀p∈A.2,p.2) :
 ∃u,(g r).run P w =.ok u w/\gm (λ_=>none) (λb=>(b<W0.heap.size/\ok0 b)\/W0.heap.size<=b) w A.1 u:=by
 unfold Mh at h;split at h<;>try (cases h;done)
 rename_i B n;simp only[kd]at h;obtain⟨C,o,rfl⟩:=h;have⟨u,l,m⟩:=qU c g i j n;refine⟨u,l,(OH c (λb d=>d.imp id (·.1)) (λk _ b d=>?_) o f (λ_ _=>rfl) m).1⟩;rcases jf5 b W0.heap.size with e|e
 .exact .inl ⟨e,(c.new k b d).1.resolve_left od⟩
 .exact .inr e
def Og[pq]{z:Func}{β:Nat->Option Nat}{a:Act}{w:bx}{σ:St}{v:AV×Obl}(i:Inv Wb okb W0 ok0 ds nt β a w σ)(g:ResultVar->Sem cg)(e:∀t,g (.tmp t)=pure (a.tmps.getD t undef))(f:∀x t,g (.cell x t)=do loadVar t (<-asAddr (a.tmps.getD x undef)))(h:U2 P σ z.results.toList=some v)(c:∀p∈v.2,p.2) :
 ∃u,(do let vs <-z.results.mapM g;pure (if h:vs.size=1 then vs[0]else .tuple vs):Sem cg).run P w =.ok u w/\iZ (λ_=>none) (λb=>(b<W0.heap.size/\ok0 b)\/W0.heap.size<=b) w v.1 u:=by
 rw[qa7,Array.mapM_eq_mapM_toList,Sem.run_map];unfold U2 at h;split at h<;>try (cases h;done)
 .rename_i r l;simp only[kd]at h;obtain⟨A,h,rfl⟩:=h;have⟨u,j,k⟩:=yS i g e f h c;refine⟨u,?_,k⟩;rw[l,je7,qa7];rw[j];simp[Result.andThen]
 .rename_i r s l;split at h<;>try (cases h;done)
  rename_i A B q y;simp only[qk]at h;subst h;have⟨u,j,k⟩:=yS i g e f q (λp d=>c p (by simp[d]));have⟨m,n,o⟩:=yS i g e f y (λp d=>c p (by simp[d]));refine⟨.tuple #[u,m],?_,[u,m],rfl,k,o,trivial⟩;rw[l,je7,qa7];rw[j];simp only[Result.andThen];rw[qa7,je7,qa7];rw[n];simp[Result.andThen]
 .rename_i r s t l;split at h<;>try (cases h;done)
  rename_i A B C q y F;simp only[qk]at h;subst h;have⟨u,j,k⟩:=yS i g e f q (λp d=>c p (by simp[d]));have⟨m,n,o⟩:=yS i g e f y (λp d=>c p (by simp[d]));have⟨u2,D,E⟩:=yS i g e f F (λp d=>c p (by simp[d]));refine⟨.tuple #[u,m,u2],?_,[u,m,u2],rfl,k,o,E,trivial⟩;rw[l,je7,qa7];rw[j];simp only[Result.andThen];rw[qa7,je7,qa7];rw[n];simp only[Result.andThen];rw[qa7,je7,qa7];rw[D];simp[Result.andThen]
def Ig[pq]{d:Func}{β:Nat->Option Nat}{a:Act}{w:bx}{σ:St}{v:AV×Obl}(e:Inv Wb okb W0 ok0 ds nt β a w σ)(h:U2 P σ d.results.toList=some v)(c:∀p∈v.2,p.2) :
 ∃u,(results d a.tmps).run P w =.ok u w/\iZ (λ_=>none) (λb=>(b<W0.heap.size/\ok0 b)\/W0.heap.size<=b) w v.1 u:=Og e _ (λ_=>rfl) (λ_ _=>rfl) h c
def Xm{σ:St}{A B:A1}(h:AB σ A=some B):B.keys=[]:=by
 have a:∀{x y:X},yj σ x=some y->y.keys=[]:=λ{x y} h=>by
  cases x with
  | d z=>simp only[yj,qk]at h;subst h;rfl
  | g k n l =>
   simp only[yj]at h;split at h<;>try (cases h;done)
   split at h<;>try (cases h;done)
   simp only[qk]at h;subst h;rfl
  | _=>cases h
 cases A with
 | one x =>
  simp only[AB,kd]at h;obtain⟨y,h,rfl⟩:=h;exact a h
 | agg j =>
  simp only[AB,kd]at h;obtain⟨m,h,rfl⟩:=h;have⟨_,b⟩:=sealXs_get h;simp only[A1.keys,List.flatMap_eq_nil_iff];intro y f;have⟨i,c⟩:=qg3 f;have⟨x,_,e⟩:=b i y c;exact a e
def Z0{σ:St}{rs:List ResultVar}{v:AV×Obl}(h:U2 P σ rs=some v):v.1.keys=[]:=by
 have a:∀{r:ResultVar} {A:A1×Obl},Mh P σ r=some A->A.1.keys=[]:=λ{r A} h=>by
  unfold Mh at h;split at h<;>try (cases h;done)
  simp only[kd]at h;obtain⟨C,d,rfl⟩:=h;exact Xm d
 unfold U2 at h;split at h<;>try (cases h;done)
 .simp only[kd]at h;obtain⟨A,h,rfl⟩:=h;exact a h
 .split at h<;>try (cases h;done)
  rename_i b c;simp only[qk]at h;subst h;simp[AV.keys,a b,a c]
 .split at h<;>try (cases h;done)
  rename_i b c d;simp only[qk]at h;subst h;simp[AV.keys,a b,a c,a d]
def ZY{σ:St}{rs:List ResultVar}{v:AV×Obl}(h:Wv P σ rs=some v):v.1.keys=[]:=by
 unfold Wv at h
 repeat' (split at h<;>try (cases h;done))
 simp only[qk]at h;subst h;rfl
def ZZ[pq]{fn:Func}{β:Nat->Option Nat}{a:Act}{w:bx}{σ:St}{v:AV×Obl}(I:Inv Wb okb W0 ok0 ds nt β a w σ)(g:ResultVar->Sem cg)(M:∀t,g (.tmp t)=pure (a.tmps.getD t undef))(N:∀x t,g (.cell x t)=do loadVar t (<-asAddr (a.tmps.getD x undef)))(o:∀k b,β k=some b->W0.heap.size<=b)(h:Wv P σ fn.results.toList=some v)(G:∀p∈v.2,p.2) :
 ∃e n es u,v.1 =.vT e n es/\(do let vs <-fn.results.mapM g;pure (if h:vs.size=1 then vs[0]else .tuple vs):Sem cg).run P w =.ok u w/\QH ok0 W0 w e n es u:=by
 rw[qa7,Array.mapM_eq_mapM_toList,Sem.run_map];unfold Wv at h;split at h<;>try (cases h;done)
 rename_i r Z;split at h<;>try (cases h;done)
 rename_i k n l S;split at h<;>try (cases h;done)
 rename_i e m es X;split at h<;>try (cases h;done)
 rename_i U;obtain⟨rfl,D⟩:=U;simp only[qk]at h;subst h;have⟨u,O,Q⟩:=qU I g M N S;obtain⟨b0,c,rfl,E,R⟩:=Q;have F:l=es.length:=G (true,_) (js.2 rfl);subst F;have T:=(I.rep (k+1,0) _ (Wj D) X).2;have⟨b,cs,H,A,f,s,C,B,Y,y,q⟩:=T;obtain⟨rfl,K,z⟩:=R b A.1;have W:K=e/\c*m=H*m:=by simp only[Zp,f,qk,kh]at z;exact⟨z.2.symm,by rw[<-s];exact z.1.symm⟩
 obtain⟨rfl,V⟩:=W;refine⟨_,_,_,.o b es.length c,rfl,?_,b,c,rfl,o k b A.1,E,z,b,cs,H,⟨rfl,qS _⟩,f,s,C,B,Y,y,λi r j x q1 q2=>?_⟩
 .rw[Z,je7,qa7];rw[O];simp[Result.andThen]
 .have⟨u,u1,u2⟩:=q i r j x q1 q2;refine⟨u,u1,u2.keep ⟨qS _,λJ _ d=>⟨⟨?_,λL=>?_⟩,λ_=>rfl⟩⟩⟩
  .rcases d with d|d
   .exact .inl d.2
   .exact .inr d.1
  .subst L;rcases d with d|d
   .have:=o k J A.1;omega
   .exact d.2 k A.1
def aal[pq]{f:Func}{β:Nat->Option Nat}{a:Act}{w:bx}{σ:St}{v:AV×Obl}(g:Inv Wb okb W0 ok0 ds nt β a w σ)(c:∀k b,β k=some b->W0.heap.size<=b)(h:Wv P σ f.results.toList=some v)(d:∀p∈v.2,p.2) :
 ∃e n es u,v.1 =.vT e n es/\(results f a.tmps).run P w =.ok u w/\QH ok0 W0 w e n es u:=ZZ g _ (λ_=>rfl) (λ_ _=>rfl) c h d
end
def closed (S:St):Bool:=S.all (λe=>LB S e.2&&(e.1.1==0||(get S (e.1.1,0)).isSome))
def loopOf:Code->Option Code
 | .loop c=>some c
 | .seq a b=>(loopOf a).orElse λ_=>loopOf b
 | .cond _ a b=>(loopOf a).orElse λ_=>loopOf b
 | .block _ c=>loopOf c
 | .scope c=>loopOf c
 | _=>none
def loopsOf:Code->List Code
 | .loop c=>c::loopsOf c
 | .seq a b=>loopsOf a++loopsOf b
 | .cond _ a b=>loopsOf a++loopsOf b
 | .block _ c=>loopsOf c
 | .scope c=>loopsOf c
 | _=>[]
def Un[pq]{P:Program}(t:P.follows .mixedOrders){nt:Nat}{body:Code}{pre post:St}{T:Hints}{C g:List Sp}{σ':St}{e:Nat}{ob:Obl}{L:List Lp}(o:∀l∈L,vO P nt l)(r:Dt P T L nt body C pre=some (e+1,σ',g,ob))(k:∀s∈C,Holds P s)(d:∀p∈ob,p.2)(hk:∀x∈post,L6 σ' x.1=some x.2)(hc:closed post)(c:(get σ' (1000001,0)).isNone):vO P nt ⟨body,pre,e+1,post⟩:=λWb okb W0 ok0 ds β a w Q m q=>by
 refine tL.round ((rG o t body _ _ _ _ _ _ r k d).2 W0 ok0 β a w _ m (λh f β' i u b=>?_));have⟨β2,j⟩:=b.forget hk hc c;have:=q h f β2 i u j
 cases e with
 | zero=>exact this
 | succ n=>exact this
def Uo[pq]{P:Program}(u:P.follows .mixedOrders){nt:Nat}{b:Code}{pre pre2 c:St}{T:Hints}{C h:List Sp}{σ':St}{ex:Nat}{ob:Obl}{L:List Lp}(o:∀l∈L,vO P nt l)(r:Dt P T L nt b C pre=some (0,σ',h,ob))(m:∀s∈C,Holds P s)(f:∀p∈ob,p.2)(hk:∀x∈pre2,L6 σ' x.1=some x.2)(hc:closed pre2)(e:(get σ' (1000001,0)).isNone)(t:vO P nt ⟨b,pre2,ex,c⟩):vO P nt ⟨b,pre,ex,c⟩:=λWb okb W0 ok0 ds β a w Q n q=>by refine tL.round ((rG o u b _ _ _ _ _ _ r m f).2 W0 ok0 β a w _ n (λi g β' j v d=>?_));have⟨β2,k⟩:=d.forget hk hc e;exact t Wb okb i g ds β2 j v Q k q
def argsS_get:∀(az:List A1) (i:Nat) (x:Loc) (v:AV),get (argsS i az) x=some v->∃j A,x=(0,i+j)/\az[j]?=some A/\v =.of A
 | a::r,i,x,v,h=>by
  simp only[argsS,get]at h;split at h
  .rename_i e;simp only[qk]at h;exact⟨0,a,e.symm,rfl,h.symm⟩
  .have⟨j,A,b,c,d⟩:=argsS_get r (i+1) x v h;exact⟨j+1,A,by rw[b];simp;omega,by simpa using c,d⟩
def De(az:List A1)(i q:Nat):get (argsS i az) (1000001,q)=none:=by
 cases h:get (argsS i az) (1000001,q)with
 | none=>rfl
 | some v =>
  have⟨j,A,e,_⟩:=argsS_get _ _ _ _ h;simp at e
def holds[pq]{P:Program}(hm:P.follows .mixedOrders){f:FuncId}{fn:Func}{body:Code}(hf:P.funcs[f]?=some fn)(hb:fn.body=some body)(hn:(fn.name == "runtime.NumGoroutine")=false)(z:Mv)(fr:Fr)(Z:fr.b->z.p=none)
 (T:Hints) (L:List Lp) (C:List Sp) {args:List A1} {res:AV} (hC:∀s∈C,Holds P s) (hL:∀l∈L,vO P fn.ntmps l) {ob:Obl}
 (h:Wd z.p fr.b P fn body T L C args=some (res,[],ob)) (hob:∀p∈ob,p.2):Holds P (@Sp.mk f args res z fr):=by
 unfold Wd at h;split at h<;>try (cases h;done)
 rename_i O;split at h<;>try (cases h;done)
 rename_i e σ C' aq he;split at h<;>try (cases h;done)
 rename_i K;split at h<;>try (cases h;done)
 rename_i B d;simp only[qk,kh]at h;obtain⟨rfl,rfl,rfl⟩:=h;have N:∀p∈aq,p.2:=λp U=>hob p (by simp[U]);have H:∀p∈B.2,p.2:=λp U=>hob p (by simp[U]);have F:B.1.keys=[]:=by
  split at d
  .exact ZY d
  .exact Z0 d
 have Y:∀(Wb:bx) (okb:br) (W0:bx) (ok0 ok:br) (w:bx) (o:bk),cm W0 w none->qp Wb okb W0 ok0 (λ_=>none) (verS z.p++argsS 0 args)->(∀b,ok b->b<w.heap.size->(b<W0.heap.size/\ok0 b)\/W0.heap.size<=b)->dU (gm (λ_=>none) ok w) args o ->
  Inv Wb okb W0 ok0 [] fn.ntmps (λ_=>none) ⟨o.toArray++Array.replicate (fn.ntmps - o.toArray.size) undef,[]⟩ w (verS z.p++argsS 0 args):=λWb okb W0 ok0 ok w o hg aa aj c=>by
  have hl:o.length=args.length:=c.length;have ad:=kB.1 O.1;have ai:∀A∈args,A.keys=[]:=λA hA=>by
   have ab:∀x∈A.xs,x.keys=[]:=λx r=>by have:=kB.1 (ad A hA) x r;cases x<;>first|rfl|cases this
   cases A with
   | one x=>exact ab x (by simp[A1.xs])
   | agg xs=>simp only[A1.keys,List.flatMap_eq_nil_iff];exact ab
  refine⟨hg,ot,ot,ot,λx v ah r=>?_,rfl,?_,rfl,aa,λx v r n hn=>?_⟩
  .rw[get_skip _ _ _ (λhm=>ah (by revert hm;cases z.p with|none=>simp[verS]|some p=>simp only[verS,qc3,jb3,js];rintro rfl;rfl))]at r;obtain⟨j,A,rfl,e2,rfl⟩:=argsS_get _ _ _ _ r;have⟨u,e3,e4⟩:=c.get _ _ e2;have hj:j<o.length:=(qv.1 e3).1;refine⟨u,?_,gm.keep ⟨qS _,λb hb ho=>⟨(aj b ho hb).imp id (λh=>⟨h,ot⟩),λ_=>rfl⟩⟩ (λ_ _ h=>h) _ _ e4⟩;rw[qa2,Array.getElem?_append_left (by simpa using hj)];simpa using e3
  .simp only[Array.size_append,jf6,Array.size_replicate];omega
  .rcases get_append _ _ _ _ r with r|⟨r,_⟩
   .cases U:z.p with
    | none=>rw[U]at r;cases r
    | some p=>rw[U]at r;simp only[verS,js,kh]at r;obtain⟨_,rfl⟩:=r;cases hn
   .obtain⟨j,A,rfl,e2,rfl⟩:=argsS_get _ _ _ _ r;have hn:n∈A.keys:=hn;rw[ai A (zj e2)]at hn;cases hn
 have J:z.p=none->∀(ok:br) (w:bx) (o:bk) {R:Ending->bx->Prop},dU (gm (λ_=>none) ok w) args o->(∀(β':Nat->Option Nat) (D:Act) (g:bx),Inv w ok w ok [] fn.ntmps β' D g σ->(∀k b,β' k=some b->w.heap.size<=b)->∃v,(results fn D.tmps).run P g =.ok v g/\R (.returned v) g)->Calls P f o.toArray w R:=λa ok w o R c X=>by
  have⟨_,k⟩:=rG (Wb:=w) (okb:=ok) (ds:=[]) hL hm body _ _ _ _ _ _ he hC N;refine calls_of_wp hf hb (k w ok (λ_=>none) _ w _ (Y w ok w ok ok w o ⟨rfl,rfl,rfl,qS _,λ_ _ _=>rfl⟩ ?_ (λb t E=>.inl ⟨E,t⟩) c) ?_)
  .rw[a];refine⟨λ_=>⟨⟨rfl,rfl⟩,ot⟩,λv d=>?_⟩;rw[show verS none++argsS 0 args=argsS 0 args from rfl,De]at d;cases d
  .intro W1 I β' D g q;have m:get σ (1000001,0)=none:=by have:=K.2;rw[a]at this;exact qa4.1 this
   obtain⟨⟨rfl,rfl⟩,M⟩:=q.FK.1 m;have⟨v,t,E⟩:=X β' D g q M;have fin:D.defers=[]/\∃v,(results fn D.tmps).run P g =.ok v g/\R (.returned v) g:=⟨q.XU,v,t,E⟩
   match e,K.1 with
   | 0,_=>exact fin
   | 1,_=>exact fin
 have hF:fr.b->Z7 P f args B.1:=λy=>by
  have a:=Z y;rw[if_pos y]at d
  cases S:B.1 with
  | vT el n es =>
   intro ok w o c;refine J a ok w o c λβ' D g q M=>?_;have⟨e2,n2,ar,u,t,E,h3⟩:=aal q M d H;rw[S]at t;simp only[AV.vT.injEq]at t;obtain⟨rfl,rfl,rfl⟩:=t;exact⟨u,E,q.gr,u,rfl,h3⟩
  | _ =>
   unfold Wv at d
   repeat' (split at d<;>try (cases d;done))
   simp only[qk]at d;rw[<-d]at S;cases S
 have hA:¬fr.b->z.p=none->Tx P f args B.1:=λy a ok w o c=>by rw[if_neg y]at d;refine J a ok w o c λβ' D g q M=>?_;have⟨u,t,E⟩:=Ig q d H;refine⟨u,t,q.gr,u,rfl,iZ.aae ⟨qS _,λb hb ho=>⟨?_,λ_=>rfl⟩⟩ F E⟩;exact ho.imp (·.2) id
 have hB:∀i j,z.p=some (i,j)->Tw P f args B.1 i j:=?_
 .refine⟨⟨λaz w=>?_,F⟩,?_⟩
  rotate_left
  .show (match z.p with|none=>(match fr.b with|true=>Z7 P f args B.1|false=>Tx P f args B.1)|some (i,j)=>Tw P f args B.1 i j)
   cases a:z.p with
   | none =>
    show (match fr.b with|true=>Z7 P f args B.1|false=>Tx P f args B.1)
    cases W:fr.b with
    | true=>exact hF W
    | false=>exact hA (by simp[W]) a
   | some p=>exact hB p.1 p.2 a
  have ae:¬fn.name = "runtime.NumGoroutine":=by simpa using hn
  simp[callFunc,hf,ae,hb,Result.andThen]
 .intro i j a ok w o hG c;have y:¬fr.b:=λh=>by rw[Z h]at a;cases a
  rw[if_neg y]at d;have⟨_,k⟩:=rG (Wb:=w) (okb:=ok) (ds:=[]) hL hm body _ _ _ _ _ _ he hC N;refine calls_of_wp hf hb (k w ok (λ_=>none) _ w _ (Y w ok w ok ok w o ⟨rfl,rfl,rfl,qS _,λ_ _ _=>rfl⟩ ?_ (λb t E=>.inl ⟨E,t⟩) c) ?_)
  .rw[a];refine⟨λh=>by simp[verS,get]at h,λv d=>?_⟩;simp only[verS,qd0,qe5,get,if_pos,qk]at d;refine⟨i,d.symm,hG,⟨qS _,λb _ h=>⟨h,rfl⟩⟩,λk v' hk=>?_⟩;rw[get_skip _ _ _ (by simp[verS]),De]at hk;cases hk
  .intro W1 I β' D g q;have⟨u,t,E⟩:=Ig q d H;have m:=K.2;rw[a]at m;simp only[verE]at m
   cases Q:get σ (1000001,0)with
   | none=>rw[Q]at m;simp[verN]at m
   | some vv =>
    obtain⟨j',rfl,g1,gf,_⟩:=q.FK.2 vv Q;have ej:j'=j:=by rw[Q]at m;simpa[verN,Aj]using m
    subst ej;have fin:D.defers=[]/\∃v,(results fn D.tmps).run P g =.ok v g/\(w.heap.size<=g.heap.size/\∃I:br,pq.G j' g I/\(∀b,b<w.heap.size->ok b->I b/\g.heap[b]?=w.heap[b]?)/\∃v2,Ending.returned v =.returned v2/\iZ (λ_=>none) I g B.1 v2):=by refine⟨q.XU,u,t,km gf.1 q.gr.size,_,pq.grow _ _ _ _ g1 q.gr,λb hb hk=>?_,u,rfl,E⟩;have⟨c1,c2⟩:=gf.2 b hb hk;have V:=ki hb gf.1;exact⟨.inl ⟨V,c1⟩,(q.gr.block b V ot).trans c2⟩
    match e,K.1 with
    | 0,_=>exact fin
    | 1,_=>exact fin
end Go.Proofs.YtgfdimkbfnpepaaGreat.Pe
