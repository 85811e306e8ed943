import Derived.Test.YtnamdihclpbdfaaGreatKuZac
namespace Go.Proofs.YtnamdihclpbdfaaGreat.Pe
set_option linter.all false
open Go.Proofs.Tryz
set_option maxRecDepth 100000
set_option maxHeartbeats 4000000
abbrev Tx (P:Program) (f:FuncId) (args:List A1) (res:AV):Prop:=∀(ok:br) (w:cg) (vs:bo),dU (gm (λ_=>none) ok w) args vs ->
 Calls P f vs.toArray w λe w'=>cq w w' none/\∃v,e =.returned v/\iZ (λ_=>none) (λb=>ok b\/w.heap.size<=b) w' res v
abbrev Tw [pq] (P:Program) (f:FuncId) (args:List A1) (res:AV) (i j:Nat):Prop:=∀(ok:br) (w:cg) (vs:bo),pq.G i w ok->dU (gm (λ_=>none) ok w) args vs ->
 Calls P f vs.toArray w λe w'=>w.heap.size<=w'.heap.size/\∃ok1:br,pq.G j w' ok1/\(∀b,b<w.heap.size->ok b->ok1 b/\w'.heap[b]?=w.heap[b]?)/\∃v,e =.returned v/\iZ (λ_=>none) ok1 w' res v
def Jh (ok:br) (w w':cg) (e:TypeId) (n:Nat) (es:List bd) (v:cm):Prop :=
 ∃b c,v =.o b es.length c/\w.heap.size<=b/\es.length<=c/\Zp w' b=some (c*n,e)/\nA (λ_=>some b) (λb'=>(ok b'\/w.heap.size<=b')/\b'≠b) w' 2000000 e n es
def VY (P:Program) (f:FuncId) (args:List A1):AV->Prop
 | .kv e n es=>∀(ok:br) (w:cg) (vs:bo),dU (gm (λ_=>none) ok w) args vs->Calls P f vs.toArray w λx w'=>cq w w' none/\∃v,x =.returned v/\Jh ok w w' e n es v
 | _=>False
structure EE (β:Nat->Option Nat) (ok:br) (w:cg) (H:Hp):Prop where
 bx:∀e∈H.bx,∃b,β e.1=some b/\∀(q:Nat) (x:X),e.2[q]?=some x->∃u,w.cell? ⟨b,q,none⟩=some u/\w.frozen? ⟨b,q,none⟩=false/\jm β ok w x u
 ls:∀e∈H.ls,∀t n es,e.2 =.kv t n es->nA β ok w e.1 t n es
 dom:∀k b,β k=some b->(H.bk k\/H.lk k)/\b<w.heap.size/\¬ok b
 inj:∀k k' b,β k=some b->β k'=some b->k=k'
structure acS (β:Nat->Option Nat) (w:cg) (β':Nat->Option Nat) (w':cg) (H:Hp):Prop where
 gr:Gw w w' (λb=>∃k,β k=some b)
 low:∀k b,k<1000000->(β' k=some b ↔ β k=some b)
 src:∀k b,β' k=some b->w.heap.size<=b\/∃k0,β k0=some b/\(2000000<=k->2000000<=k0)
 rest:∀k b,k<1000000->β k=some b->Zp w' b=Zp w b/\∀q,(∀e∈H.bx,e.1=k->e.2.length<=q)->w'.cell? ⟨b,q,none⟩=w.cell? ⟨b,q,none⟩/\w'.frozen? ⟨b,q,none⟩=w.frozen? ⟨b,q,none⟩
def NJ (β:Nat->Option Nat) (ok:br) (w:cg) (β':Nat->Option Nat) (b:Nat):Prop:=(b<w.heap.size/\ok b)\/((w.heap.size<=b\/∃k,β k=some b)/\∀k,β' k≠some b)
def yc (P:Program) (f:FuncId) (args:List A1) (res:AV) (H H':Hp):Prop:=∀(β:Nat->Option Nat) (ok:br) (w:cg) (vs:bo),EE β ok w H->dU (gm β ok w) args vs ->
 Calls P f vs.toArray w λe w'=>∃β',acS β w β' w' H/\EE β' (NJ β ok w β') w' H'/\∃v,e =.returned v/\iZ β' (NJ β ok w β') w' res v
structure Holds [pq] (P:Program) (s:Sp):Prop where
 OT:(∀(args:Array cm) (w:cg),(callFunc s.f args).run P w =.ok (.enter s.f args) w)/\s.res.keys.all s.bl.post.lk
 run:match s.no with
  | false=>yc P s.f s.args s.res s.bl.pre s.bl.post
  | true=>match s.mv.p with
   | none=>match s.fr.b with|true=>VY P s.f s.args s.res|false=>Tx P s.f s.args s.res
   | some (i,j)=>Tw P s.f s.args s.res i j
def Holds.nk[pq]{P:Program}{s:Sp}(h:Holds P s)(e:s.no):s.res.keys=[]:=by
 have a:=h.OT.2;unfold Sp.no at e;simp only[qt,List.isEmpty_iff]at e
 cases hk:s.res.keys with
 | nil=>rfl
 | cons k l =>
  rw[hk]at a;simp only[xj,qt,Hp.lk,e.2,List.any_nil]at a;exact absurd a.1 oe
def Holds.runN[pq]{P:Program}{s:Sp}(h:Holds P s)(e:(s.no,s.mv.p,s.fr.b)=(true,.none,false)):Tx P s.f s.args s.res:=by have:=h.run;simp only[ju]at e;rw[e.1,e.2.1,e.2.2]at this;exact this
def Holds.adr[pq]{P:Program}{s:Sp}(h:Holds P s)(e:s.mv.p =.none)(a:s.fr.b:=by rfl)(c:s.no:=by rfl):VY P s.f s.args s.res:=by have:=h.run;rw[c,e,a]at this;exact this
def Holds.runM[pq]{P:Program}{s:Sp}(h:Holds P s){i j:Nat}(e:s.mv.p =.some (i,j))(a:s.no:=by rfl):Tw P s.f s.args s.res i j:=by have:=h.run;rw[a,e]at this;exact this
def Holds.bH[pq]{P:Program}{s:Sp}(h:Holds P s)(e:s.no=false:=by rfl):yc P s.f s.args s.res s.bl.pre s.bl.post:=by have:=h.run;rw[e]at this;exact this
def Holds.any[i:pq][j:pq]{P:Program}{s:Sp}(h : @Holds i P s)(e:s.mv.p =.none) : @Holds j P s:=by obtain⟨a,b⟩:=h;refine⟨a,?_⟩;revert b;rw[e];exact id
section
variable {Wb W0:cg}{okb ok0:br}{ds:List Deferred}{nt:Nat}{β:Nat->Option Nat}{a:Act}{w w':cg}{σ:St}
def Inv.Zj[pq](c:Inv Wb okb W0 ok0 ds nt β a w σ){b:Nat}(e:bs b):b<w.heap.size:=kh (c.qQ.1 b e).2 c.gr.size
def Inv.hnd[pq](d:Inv Wb okb W0 ok0 ds nt β a w σ)(h:∀k b,k<1000000->pq.h0 k=some b->Zp w' b=Zp w b/\∀q,nOf k<=q->w'.cell? ⟨b,q,none⟩=w.cell? ⟨b,q,none⟩/\w'.frozen? ⟨b,q,none⟩=w.frozen? ⟨b,q,none⟩):Hnd W0 ok0 w' :=
 ⟨d.qQ.1,λk b i e=>by have⟨j,f⟩:=h k b i e;have⟨l,g⟩:=d.qQ.2.1 k b i e;exact⟨j.trans l,λq c=>⟨(f q c).1.trans (g q c).1,(f q c).2.trans (g q c).2⟩⟩,d.qQ.2.2⟩
def QP{w w':cg}{b n:Nat}(h:w'.heap[b]?=w.heap[b]?):Zp w' b=Zp w b/\∀q,n<=q->w'.cell? ⟨b,q,none⟩=w.cell? ⟨b,q,none⟩/\w'.frozen? ⟨b,q,none⟩=w.frozen? ⟨b,q,none⟩:=⟨ko h,λq _=>⟨ke h,qh4 h⟩⟩
def Inv.acW[pq](c:Inv Wb okb W0 ok0 ds nt β a w σ)(h:∀b,bs b->w'.heap[b]?=w.heap[b]?):Hnd W0 ok0 w':=c.hnd λk b _ e=>QP (h b ⟨k,e⟩)
end
def wL{σ:St}{k:Nat} : ∀(n q:Nat) (xs:List X),vB σ k q n=some xs->xs.length=n/\∀(j:Nat) (x:X),xs[j]?=some x->get σ (k+1,q+j)=some (.of (.one x))
 | 0,q,xs,h=>by simp only[vB,qq]at h;subst h;simp
 | n+1,q,xs,h=>by
  simp only[vB]at h;split at h
  .rename_i x e;simp only[qS]at h;obtain⟨d,h,rfl⟩:=h;have⟨b,c⟩:=wL n (q+1) d h;refine⟨by simp[b],λj y a=>?_⟩
   cases j with
   | zero=>simp only[kO,qq]at a;subst a;exact e
   | succ j=>have:=c j y (by simpa using a);rwa [show q+1+j=q+(j+1) by omega]at this
  .cases h
def Bf{a b:Nat}(h:Nat.beq a b):a=b:=Nat.eq_of_beq_eq_true h
def Eb{k:Nat} : ∀(n q:Nat) (σ:St),(oJ k q n σ).length<=n/\∀j,j<(oJ k q n σ).length->get σ (k+1,q+j)=(oJ k q n σ)[j]?
 | 0,q,σ=>by simp[oJ]
 | n+1,q,[]=>by simp[oJ]
 | n+1,q,((f,a),v)::r=>by
  simp only[oJ]
  cases c:Nat.beq f (k+1)with
  | false=>simp
  | true =>
   cases d:Nat.beq a q with
   | false=>simp
   | true =>
    obtain rfl:=Bf c;obtain rfl:=Bf d;have⟨g1,g2⟩:=Eb (k:=k) n (a+1) r;simp only[cond_true];refine⟨OK,λj e=>?_⟩
    cases j with
    | zero=>simp[ic]
    | succ j =>
     have b:¬(k+1,a)=(k+1,a+(j+1)):=λh=>by simp at h
     simp only[ic,if_neg b,ub];rw[<-g2 j (by simpa using e)]
     congr 2;omega
def DN{k q:Nat} : ∀(σ:St) (n:Nat),(kG k q n σ).length<=n/\∀j,j<(kG k q n σ).length->get σ (k+1,q+j)=(kG k q n σ)[j]?
 | [],n=>by simp[kG]
 | ((f,a),v)::r,n=>by
  simp only[kG];have skip:∀m,(∀j,j<m->¬(f,a)=(k+1,q+j))->m<=n->(kG k q m r).length<=n/\∀j,j<(kG k q m r).length->get (((f,a),v)::r) (k+1,q+j)=(kG k q m r)[j]?:=λm g l=>by have⟨b,c⟩:=DN (k:=k) (q:=q) r m;refine⟨od,λj d=>?_⟩;simp only[ic,if_neg (g j od)];exact c j d
  cases b:Nat.beq f (k+1)with
  | false=>exact skip n (λj d h=>by simp only[ju]at h;rw[h.1,Nat.beq_refl]at b;cases b) (jj _)
  | true =>
   obtain rfl:=Bf b
   cases c:Nat.beq a q with
   | true=>exact Eb n q _
   | false =>
    have o:a≠q:=λh=>by rw[h,Nat.beq_refl]at c;cases c
    cases e:Nat.ble (q+1) a&&Nat.ble (a+1) (q+n)with
    | true =>
     rw[qt,Nat.ble_eq,Nat.ble_eq]at e;exact skip _ (λj d h=>by simp only[ju]at h;omega) od
    | false =>
     have i:¬(q+1<=a/\a+1<=q+n):=λh=>by rw[Nat.ble_eq_true_of_le h.1,Nat.ble_eq_true_of_le h.2]at e;cases e
     exact skip n (λj d h=>by simp only[ju]at h;omega) (jj _)
def Ga{σ:St}{k:Nat} : ∀(f q n:Nat) (xs:List AV),getRun σ k f q n=some xs->xs.length=n/\∀j,j<n->get σ (k+1,q+j)=xs[j]?
 | 0,q,0,xs,h=>by simp only[getRun,qq]at h;subst h;simp
 | _+1,q,0,xs,h=>by simp only[getRun,qq]at h;subst h;simp
 | 0,q,n+1,xs,h=>by simp[getRun]at h
 | f+1,q,n+1,xs,h=>by
  simp only[getRun]at h;have⟨b,c⟩:=DN (k:=k) (q:=q) σ (n+1);split at h
  .cases h
  .rename_i x d e;rw[e]at b c;simp only[qS]at h;obtain⟨g,h,rfl⟩:=h;have⟨g1,g2⟩:=Ga f _ _ g h;simp only[js]at b;refine⟨by simp only[jx,js];omega,λj i=>?_⟩
   by_cases a:j<(x::d).length
   .rw[zd a];exact c j a
   .rw[xf od];simp only[js]at a|-;rw[<-g2 (j - (d.length+1)) od]
    congr 2;omega
def onesX_eq:∀(xs:List AV) (ys:List X),onesX xs=some ys->ys.length=xs.length/\∀(j:Nat) (x:X),ys[j]?=some x->xs[j]?=some (.of (.one x))
 | [],ys,h=>by simp only[onesX,qq]at h;subst h;simp
 | v::r,ys,h=>by
  unfold onesX at h;split at h<;>try (cases h;done)
  .rename_i e;cases e
  .rename_i x f e;cases e;simp only[qS]at h;obtain⟨d,h,rfl⟩:=h;have⟨b,c⟩:=onesX_eq r d h;refine⟨by simp[b],λj y a=>?_⟩
   cases j with
   | zero=>simpa using a
   | succ j=>exact c j y (by simpa using a)
def mJ{σ:St}{k:Nat}(n q:Nat)(xs:List X)(h:mI σ k q n=some xs):xs.length=n/\∀(j:Nat) (x:X),xs[j]?=some x->get σ (k+1,q+j)=some (.of (.one x)):=by
 unfold mI at h;split at h
 .exact wL n q xs h
 .split at h
  .rename_i b e;have⟨g,c⟩:=Ga _ _ _ b e;have⟨i,d⟩:=onesX_eq b xs h;refine⟨od,λj x a=>?_⟩;have f:=(qT.1 a).1;rw[c j od];exact d j x a
  .exact wL n q xs h
def DU{k:Nat} : ∀(n q j:Nat),j<n->(k+1,q+j)∈BD k q n
 | n+1,q,0,_=>by simp[BD]
 | n+1,q,j+1,h=>by have:=DU (k:=k) n (q+1) j od;rw[show q+1+j=q+(j+1) by omega]at this;simp only[BD,kl];exact .inr this
def oD{k:Nat} : ∀(xs:List X) (q:Nat) (x:Loc) (v:AV),(x,v)∈oC k q xs->∃j y,x=(k+1,q+j)/\xs[j]?=some y/\v =.of (.one y)
 | y::d,q,x,v,h=>by
  simp only[oC,kl,ju]at h;rcases h with⟨rfl,rfl⟩|h
  .exact⟨0,y,rfl,rfl,rfl⟩
  .have⟨j,z,a,b,c⟩:=oD d (q+1) x v h;exact⟨j+1,z,by rw[a];simp;omega,by simpa using b,c⟩
def rF{k:Nat} : ∀(xs:List X) (q j:Nat),j<xs.length->(k+1,q+j)∈(oC k q xs).map (·.1)
 | y::a,q,0,_=>by simp[oC]
 | y::a,q,j+1,h=>by have:=rF (k:=k) a (q+1) j (by simpa using h);rw[show q+1+j=q+(j+1) by omega]at this;simp only[oC,qc0,kl];exact .inr this
def setCells_size(b:Nat):∀(vs:bo) (o:Nat) (w:cg),(w.setCells b o vs).heap.size=w.heap.size
 | [],_,_=>rfl
 | v::r,o,w=>by rw[World.setCells,setCells_size b r];simp
def o7(b i:Nat)(a:i≠b):∀(vs:bo) (o:Nat) (w:cg),(w.setCells b o vs).heap[i]?=w.heap[i]?
 | [],_,_=>rfl
 | v::r,o,w=>by rw[World.setCells,o7 b i a r,heap_setCell_other _ _ _ _ a]
def wm(b:Nat):∀(vs:bo) (o:Nat) (w:cg),(w.setCells b o vs).os=w.os/\(w.setCells b o vs).tape=w.tape/\(w.setCells b o vs).output=w.output
 | [],_,_=>⟨rfl,rfl,rfl⟩
 | v::r,o,w=>by rw[World.setCells];exact wm b r _ _
section
variable {P:Program}{Wb W0:cg}{okb ok0:br}{ds:List Deferred}{nt:Nat}{β:Nat->Option Nat}{a:Act}{w:cg}{σ σL:St}{o:Oper}{T:List (Nat×Bool×Bool)}{C C':List Sp}{ob:Obl}{u:Out}
abbrev sO (σ:St) (v:AV):Prop:=∀n∈v.keys,(get σ (n+1,0)).isSome
abbrev VX (σL σ:St) (o:Oper):Prop:=∀x∈o.op.operands.toList,∀v,tC σ x=some v->sO σL v
abbrev Comes [pq] (P:Program) (Wb:cg) (okb:br) (W0:cg) (ok0:br) (β:Nat->Option Nat) (a:Act) (w:cg) (σL:St) (o:Oper) (u:Out):Prop :=
 ∀(K:Act->cg->Prop) (Q:Exit->Act->cg->Prop),(∀W1 ok1 β' w' val,Dc σL W0 ok0 β w W1 ok1 β' w' (u.mem.map (·.1))->iZ β' (okB W1.heap.size ok1 β') w' (u.res.getD undefA) val->(∀x v,(x,v)∈u.mem->x.1≠1000001->∀a',EH β' (okB W1.heap.size ok1 β') a' w' x v)->lU Wb okb W1 ok1 β' (u.mem++σL)->sO (u.mem++σL) (u.res.getD undefA)->(∀x v,(x,v)∈u.mem->sO (u.mem++σL) v)->K (a.put o.dst val) w')->o.wp P a w K Q
def zD{K:Act->cg->Prop}{Q:Exit->Act->cg->Prop}{v:cm}{w':cg}(h:(execOp a.eval o).run P w =.ok (.value v) w')(hk:K (a.put o.dst v) w'):o.wp P a w K Q:=by unfold Oper.wp;rw[h];exact hk
def P8[pq](b:Inv Wb okb W0 ok0 ds nt β a w σL){v:AV}(h:Does P β (okB W0.heap.size ok0 β) a w o v)(hk:sO σL v):Comes P Wb okb W0 ok0 β a w σL o ⟨some v,[],[]⟩:=λK Q hK=>by have⟨x,c,d⟩:=h;exact zD c (hK W0 ok0 β w x (b.grow ⟨rfl,rfl,rfl,jj _,λ_ _ _=>rfl⟩) d oe b.FK hk oe)
def V8[pq](l:Inv Wb okb W0 ok0 ds nt β a w σL){A:A1}{v:cm}{elem:TypeId}(Y:dU (jm β (okB W0.heap.size ok0 β) w) A.xs v.cells.toList)(J:∀x∈A.xs,∀n∈x.keys,(get σL (n+1,0)).isSome)(h:M6 σ o A=some u)(t:∀x∈u.rd,get σL x=get σ x)(H:∀x∈u.mem.map (·.1),get σL x=get σ x)
 (hrun:(execOp a.eval o).run P w =.ok (.value (.po (w.heap.size))) (w.alloc (.cells v.cells elem))):Comes P Wb okb W0 ok0 β a w σL o u:=λK Q hK=>by
 unfold M6 at h;split at h
 .rename_i d x xs hd T;split at h
  .rename_i hc;have D:d<800000:=hc.2.2;have p:d<1000000:=Nat.lt_trans D ot;simp only[qq]at h;subst h;rw[T]at Y;have hβ:β d=none:=by
    cases e:β d with
    | none=>rfl
    | some b =>
     have s:=l.dom d b e;rw[H (d+1,0) (by rw[qa0,ki];exact .inl (by have:=rF (k:=d) (x::xs) 0 0 oe;simpa using this))]at s;rw[qa6.1 hc.2.1]at s;cases s
   let β':Nat->Option Nat:=λk=>if k=d then some w.heap.size else β k
   have hβ':∀k b,β' k=some b->(k=d/\b=w.heap.size)\/β k=some b:=λk b e=>by
    simp only[β']at e;split at e
    .rename_i C;simp only[qq]at e;exact .inl ⟨C,e.symm⟩
    .exact .inr e
   have g:∀b,b<w.heap.size->(w.alloc (.cells v.cells elem)).heap[b]?=w.heap[b]?:=λb O=>(jg6 w _ none).block b O oe;have B:(w.alloc (.cells v.cells elem)).heap[w.heap.size]?=some (.cells v.cells elem):=by show (w.heap.push _)[w.heap.size]?=_;simp
   have m:Dc σL W0 ok0 β w W0 ok0 β' (w.alloc (.cells v.cells elem)) ((oC d 0 (x::xs)++mark d (get σ (1000001,0))).map (·.1)):={
    qQ:=l.acW λb e=>g b (l.Zj e)
    nk:=by simp only[β'];rw[if_neg (λe=>by rw[<-e]at p;exact jg4 _ p)];exact l.nk
    gr:=gtr l.gr (jg6 w _ none)
    new:=λk b e=>by
     have:=l.gr.size;rcases hβ' k b e with⟨hk,rfl⟩|e
     .exact⟨.inl (.inl ⟨this,.inl (by rw[hk];exact D)⟩),oe⟩
     .exact⟨(l.new k b e).1,by have:=(l.new k b e).2;simp;omega⟩
    inj:=λk U b e L=>by
     rcases hβ' k b e with⟨s,W⟩|e<;>rcases hβ' U b L with⟨X,h4⟩|L
     .rw[s,X]
     .have:=(l.new U b L).2;omega
     .have:=(l.new k b e).2;omega
     .exact l.inj k U b e L
    sub:=λk b _ e=>by simp only[β'];rw[if_neg (λC=>by subst C;rw[hβ]at e;cases e)];exact e
    fresh:=λk b e=>by
     rcases hβ' k b e with⟨rfl,_⟩|e
     .exact .inr (by rw[qa0,ki];exact .inl (by have:=rF (k:=k) (x::xs) 0 0 oe;simpa using this))
     .exact .inl e
    keep:=⟨oe,λb O ho=>⟨by
     rcases ho with s|⟨s,W⟩
     .exact .inl s
     .exact .inr ⟨s,λk e=>by
       rcases hβ' k b e with⟨_,X⟩|e
       .omega
       .exact W k e⟩,λq=>ke (g b O)⟩⟩
    own:=λk b q _ e _ _=>⟨ke (g b (l.new k b e).2),qh4 (g b (l.new k b e).2)⟩
    nT:=λk b hk e _=>⟨by simp only[β'];rw[if_neg (λC=>by rw[C]at hk;exact Nat.not_lt.2 hk (Nat.lt_trans p ot))];exact e,g b (l.new k b e).2⟩
    alive:=λn r b e=>by
     rcases hβ' n b e with⟨rfl,_⟩|e
     .rw[H (n+1,0) (by rw[qa0,ki];exact .inl (by have:=rF (k:=n) (x::xs) 0 0 oe;simpa using this)),qa6.1 hc.2.1]at r;cases r
     .exact⟨e,ko (g b (l.new n b e).2)⟩ }
   have R:∀y∈A.xs,∀n∈y.keys,(get (oC d 0 (x::xs)++mark d (get σ (1000001,0))++σL) (n+1,0)).isSome:=λy f n r=>get_mono _ _ _ (.inl (J y f n r));refine zD hrun (hK W0 ok0 β' _ _ m ⟨w.heap.size,⟨by simp[β'],p⟩,rfl⟩ (λy z f S a'=>?_) ?_ (λn r=>by cases r) (λy z f n r=>?_))
   rotate_left 2
   .rw[ki]at f;rcases f with f|f
    .obtain⟨j,c,rfl,N,rfl⟩:=oD _ _ _ _ f;exact R c (by rw[T];exact ka N) n r
    .exfalso
     cases E:get σ (1000001,0)with
     | none=>rw[E]at f;simp[mark]at f
     | some v =>
      obtain⟨i,rfl,_⟩:=l.FK.2 v ((t (1000001,0) oe).trans E);rw[E]at f;simp only[mark,qv,ju]at f;rw[f.2]at r;cases r
   rotate_left
   .rw [qa3];refine lU.skip ?_ (λy f=>?_)
    .have ev:=t (1000001,0) oe;rw[<-ev];have⟨Z,v2⟩:=l.FK
     cases I:get σL (1000001,0)with
     | none =>
      refine⟨λ_=>⟨(Z I).1,λk b e=>?_⟩,λv G=>?_⟩
      .rcases hβ' k b e with⟨hk,rfl⟩|e
       .exact .inl ⟨l.gr.size,.inl (by rw[hk];exact D)⟩
       .exact (Z I).2 k b e
      .simp only[mark,qe5,I]at G;cases G
     | some v =>
      obtain⟨i,rfl,g1,gf,g2⟩:=v2 v I;have V:get (mark d (some (Aj i))++σL) (1000001,0)=some (Aj i):=by rw[get_skip _ _ _ (by simp[mark])];exact I
      refine⟨λh=>?_,λv G=>?_⟩
      .rw[V]at h;cases h
      .rw[V]at G;simp only[qq]at G;subst G;refine⟨i,rfl,g1,gf,λk v' hk=>?_⟩
       by_cases F:k=d
       .subst F;simp only[mark,qd2,qe5,get_nil,ic,if_pos,qq]at hk;refine⟨i,hk.symm,jj _,λ_ b e=>?_⟩;rcases hβ' k b e with⟨_,rfl⟩|e
        .exact l.gr.size
        .rw[hβ]at e;cases e
       .rw[get_skip _ _ _ (by simp[mark,F])]at hk;have⟨j,j1,j2,j3⟩:=g2 k v' hk;refine⟨j,j1,j2,λej b e=>?_⟩;rcases hβ' k b e with⟨M,_⟩|e
        .exact absurd M F
        .exact j3 ej b e
    .simp only[kB]at f;obtain⟨⟨y1,y2⟩,f,rfl⟩:=f;obtain⟨j,c,rfl,_,_⟩:=oD _ _ _ _ f;exact λe=>jg4 _ ((Nat.succ.inj e:d=1000000) ▸ p)
   replace f:(y,z)∈oC d 0 (x::xs):=by
    rw[ki]at f;rcases f with f|f
    .exact f
    .exfalso;revert f;cases get σ (1000001,0)with
     | none=>simp[mark]
     | some v=>simp only[mark,qv,ju];rintro⟨rfl,_⟩;exact S rfl
   obtain⟨j,c,rfl,N,rfl⟩:=oD _ _ _ _ f;have⟨uv,M,C⟩:=Y.get _ _ N;refine⟨w.heap.size,uv,c,⟨by simp[β'],p⟩,rfl,?_,?_,jm.kL m.keep m.sub _ _ (λn r=>m.alive n (J c (by rw[T];exact ka N) n r)) C⟩
   .rw[ja1]at M;simp only[World.cell?,B,qb1];exact M
   .simp only[World.frozen?,B,Nat.not_lt_zero,decide_false,Bool.and_false]
  .cases h
 .cases h
def EL[pq](t:Inv Wb okb W0 ok0 ds nt β a w σL){k q o:Nat}{xs:List X}{b:Nat}(hb:β k=some b/\k<1000000)(h:mI σ k q o=some xs)(l:∀x∈BD k q o,get σL x=get σ x) :
 (∀x∈xs,∀n∈x.keys,(get σL (n+1,0)).isSome)/\∃vs:bo,dU (jm β (okB W0.heap.size ok0 β) w) xs vs/\∀(j:Nat) (v:cm),vs[j]?=some v->w.cell? ⟨b,q+j,none⟩=some v/\w.frozen? ⟨b,q+j,none⟩=false:=by
 have⟨A,z⟩:=mJ _ _ _ h;have d:∀(j:Nat) (x:X),xs[j]?=some x->∃v,(w.cell? ⟨b,q+j,none⟩=some v/\w.frozen? ⟨b,q+j,none⟩=false)/\jm β (okB W0.heap.size ok0 β) w x v:=λj x m=>by
  have c:j<o:=by rw[<-A];exact (qT.1 m).1
  have⟨I,u,y,f,g,C,D,E⟩:=t.rep (k+1,q+j) _ (λe=>by have e:k+1=1000001:=e;have:=hb.2;omega) ((l _ (DU o q j c)).trans (z j x m));have f:=f.1;rw[hb.1]at f;simp only[qq]at f;subst f;simp only[AV.of.injEq,A1.one.injEq]at g;subst g;exact⟨u,⟨C,D⟩,E⟩
 refine⟨λx G n F=>?_,(List.range xs.length).map λj=>(w.cell? ⟨b,q+j,none⟩).getD undef,dU.of oe (λi x v f g=>?_),λj v r=>?_⟩
 .have⟨j,m⟩:=qh3 G;exact t.hk _ _ ((l _ (DU o q j (by rw[<-A];exact (qT.1 m).1))).trans (z j x m)) n F
 .have⟨H,⟨p,_⟩,s⟩:=d i x f;have c:i<xs.length:=(qT.1 f).1;simp[c,p]at g;exact g ▸ s
 .have c:j<xs.length:=by have:=(qT.1 r).1;simpa using this
  have⟨H,⟨p,B⟩,s⟩:=d j _ (qu c);simp[c,p]at r;exact⟨r ▸ p,B⟩
end
def nM{α:Type}(n:Nat):∀(k:Nat) (l:List α),(chunk n k l).length=k
 | 0,_=>rfl
 | k+1,l=>by simp[chunk,nM n k]
def uU{α:Type}(n:Nat):∀(k:Nat) (l:List α),l.length=k*n->∀(i:Nat) (r:List α),(chunk n k l)[i]?=some r->r.length=n/\∀(j:Nat) (x:α),r[j]?=some x->l[i*n+j]?=some x
 | 0,l,_,i,r,h=>by simp[chunk]at h
 | k+1,l,b,0,r,h=>by
  simp only[chunk,kO,qq]at h;subst h;rw[qg3]at b;refine⟨ov,λj x a=>?_⟩;rw[qe4]at a;split at a
  .simpa using a
  .cases a
 | k+1,l,b,i+1,r,h=>by simp only[chunk,ub]at h;rw[qg3]at b;have⟨c,d⟩:=uU n k (l.drop n) ov i r h;refine⟨c,λj x a=>?_⟩;have:=d j x a;rw[qh6]at this;rw[qg3,show i*n+1*n+j=n+(i*n+j) by omega];exact this
section
variable {P:Program}{Wb W0:cg}{okb ok0:br}{ds:List Deferred}{nt:Nat}{β:Nat->Option Nat}{a:Act}{w:cg}{σ σL:St}{o:Oper}{T:Hints}{C C':List Sp}{ob:Obl}{u:Out}
def yw{g:Bool}{xs:List X}{v:AV}(h:mkA g xs=some v):∀n∈v.keys,∃x∈xs,n∈x.keys:=by
 cases g with
 | true=>simp only[mkA,qq]at h;subst h;intro n a;simpa[AV.keys,A1.keys,qb2]using a
 | false =>
  match xs,h with
  | [x],h=>simp only[mkA,qq]at h;subst h;intro n a;exact⟨x,oe,a⟩
def acn{l:bd}{x:X}(h:x∈l.map X.d):x.keys=[]:=by obtain⟨y,_,rfl⟩:=kB.1 h;rfl
def PL{n:Nat}(c:0<n):∀{es:List bd},(∀r∈es,r.length=n)->∀{p:Nat}{x:D},es.flatten[p]?=some x->∃r,es[p / n]?=some r/\r[p % n]?=some x
 | [],_,p,x,h=>by simp at h
 | r::es,d,p,x,h=>by
  have i:=d r oe;rw[jd7]at h
  by_cases a:p<n
  .rw[zd od]at h;exact⟨r,by rw[Nat.div_eq_of_lt a];rfl,by rw[je5 a];exact h⟩
  .rw[xf od,i]at h;have⟨q,f,g⟩:=PL c (λr b=>d r (by simp[b])) h;have e:p=p - n+n:=by omega
   refine⟨q,?_,?_⟩
   .rw[e,Nat.add_div_right _ c];simpa using f
   .rw[e,Nat.add_mod_right];exact g
def nA.cells{ok:br}{k n:Nat}{d:TypeId}{es:List bd}{b:Nat}(h:nA β ok w k d n es)(hb:β k=some b):∀{p:Nat}{x:D},es.flatten[p]?=some x->∃u,w.cell? ⟨b,p,none⟩=some u/\fI ok w x u:=λ{p x} j=>by have⟨o,cs,c,a,e,q,s,t,f,g,i⟩:=h;have a:=a.1;rw[hb]at a;simp only[qq]at a;subst a;have⟨r,l,m⟩:=PL f g j;have⟨u,u1,u2⟩:=i _ _ _ _ l m;rw[Nat.div_add_mod' p n]at u1;exact⟨u,by simp only[World.cell?,e];exact u1,u2⟩
def WZ[pq](I:Inv Wb okb W0 ok0 ds nt β a w σL){t:TypeId}{x:Operand}(S:o.op =.load t x)(h:Dk P T C σ o=some (u,C',ob))(H:CK β (okB W0.heap.size ok0 β) a w σ o)(Z:∀p∈ob,p.2)(L:∀x∈u.rd,get σL x=get σ x):C'=C/\Comes P Wb okb W0 ok0 β a w σL o u:=by
 simp only[Dk,S]at h;have hx:=H x (by simp[S,Op.operands])
 -- a G of data that lies somewhere
 have G:∀{b F:Nat} {J:bd} {d:TypeDesc} {i:TypeInfo} {v:AV} {rd:List Loc},P.underlying t=some d->P.info? t=some i->J.length=i.size->a.eval x =.pointer (some ⟨b,F,none⟩)->(∀(j:Nat) (y:D),J[j]?=some y->∃z,w.cell? ⟨b,F+j,none⟩=some z/\fI (okB W0.heap.size ok0 β) w y z)->mkA (aggB d) (J.map .d)=some v->Comes P Wb okb W0 ok0 β a w σL o ⟨some v,[],rd⟩:=λ{b F J d i v rd} E B hl s hc g=>by
  let r:=(List.range i.size).map λj=>(w.cell? ⟨b,F+j,none⟩).getD undef
  have U:dU (jm β (okB W0.heap.size ok0 β) w) (J.map .d) r:=by
   refine dU.of (by simp[r,hl]) (λj y z m h4=>?_);simp only[qb0,qS]at m;obtain⟨y',m,rfl⟩:=m;have f:j<i.size:=by rw[<-hl];exact (qT.1 m).1
   have⟨z',O,c2⟩:=hc _ _ m;simp[r,f,O]at h4;exact h4 ▸ c2
  have A:∀(j:Nat) (v:cm),r[j]?=some v->w.cell? ⟨b,F+j,none⟩=some v:=λj z hz=>by
   have f:j<i.size:=by have:=(qT.1 hz).1;simpa[r]using this
   have⟨z',O,c2⟩:=hc _ _ (qu (by omega:j<J.length));simp[r,f,O]at hz;exact hz ▸ O
  have⟨z,r1,r2,r3⟩:=E9 g U;refine λK Q hK=>zD (v:=z) (w':=w) ?_ (hK W0 ok0 β w z (I.grow ⟨rfl,rfl,rfl,jj _,λ_ _ _=>rfl⟩) r1 oe I.FK (λn Y=>?_) oe)
  .have:=uJ (P:=P) (w:=w) (b:=b) (q:=F) E B (by simp[r]) A r2 r3;simp[execOp,S,Instr.loadAt,s,Instr.sureAddr,this,Result.andThen]
  .have⟨y,y1,V⟩:=yw g n Y;rw[acn y1]at V;cases V
 split at h<;>try (cases h;done)
 .rename_i k q d i e E B;split at h<;>try (cases h;done)
  simp only[qS,qf1,ju]at h;obtain⟨v,⟨xs,l,g⟩,rfl,rfl,rfl⟩:=h;have⟨b,R,s⟩:=hx _ e;have⟨X,r,U,hc⟩:=EL I R l L;have⟨z,r1,r2,r3⟩:=E9 g U;refine⟨rfl,λK Q hK=>zD (v:=z) (w':=w) ?_ (hK W0 ok0 β w z (I.grow ⟨rfl,rfl,rfl,jj _,λ_ _ _=>rfl⟩) r1 oe I.FK (λn Y=>by have⟨y,y1,V⟩:=yw g n Y;exact X y y1 n V) oe)⟩;have:=uJ (P:=P) (w:=w) (b:=b) (q:=q) E B (U.length.trans (mJ _ _ _ l).1) (λj v M=>(hc j v M).1) r2 r3;simp[execOp,S,Instr.loadAt,s,Instr.sureAddr,this,Result.andThen]
 .rename_i cs q d i e E B;split at h<;>try (cases h;done)
  rename_i aa;simp only[qS,ju]at h;obtain⟨v,g,rfl,rfl,rfl⟩:=h;have⟨b,F,s,R,hc⟩:=hx _ e;refine⟨rfl,G E B ov s (λj y f=>?_) g⟩;rw[qe4]at f;split at f
  .rw[qh6]at f;have:=hc _ _ f;rwa [<-qg2]at this
  .cases f
 .rename_i k q d i e E B;split at h<;>try (cases h;done)
  rename_i el n es hg;split at h<;>try (cases h;done)
  rename_i hc;have ab:=hc.2;have N:∀v,(dY es q i.size).bind (mkA (aggB d))=some v->u=⟨some v,[],[(k+1,0)]⟩->Comes P Wb okb W0 ok0 β a w σL o u:=λv M eu=>by
   subst eu;have⟨xs,l,g⟩:=qf1.1 M;unfold dY at l;split at l<;>try (cases l;done)
   rename_i ad;simp only[qq]at l;subst l;have hL:=(I.rep (k+1,0) _ (λe=>by have e:k+1=1000001:=e;omega) ((L (k+1,0) oe).trans hg)).2;have W:=hL;have⟨b,cs,c,m,_⟩:=hL;have⟨b0,s,R⟩:=hx _ e;obtain rfl:=R b m.1;refine G E B (by rw[qc1,List.length_drop];omega) s (λj y f=>?_) g;rw[qe4]at f;split at f
   .rw[qh6]at f;exact W.cells m.1 f
   .cases f
  unfold Zc at h;split at h
  .simp only[qS,ju]at h;obtain⟨v,M,rfl,rfl,rfl⟩:=h;exact⟨rfl,N v M rfl⟩
  .simp only[qq,ju]at h;obtain⟨rfl,rfl,rfl⟩:=h;exact⟨rfl,N _ (Z (true,_) (qv.2 rfl)) rfl⟩
def IG(b:Nat)(w:cg):∀(vs:bo) (o:Nat),Zp (w.setCells b o vs) b=Zp w b:=λvs=>by
 induction vs generalizing w with
 | nil=>intro o;rfl
 | cons v r f =>
  intro o;rw[World.setCells,f];unfold Zp;simp only[World.setCell,ja2]
  cases h:w.heap[b]? with
  | none=>simp
  | some x =>
   simp only[if_true,qg6];cases x<;>first|rfl|(rename_i cs e d;have⟨a,c⟩:=d;rcases a with _|a<;>rcases c with _|c<;>simp)
def J2{n:Nat} : ∀{es:List bd},(∀r∈es,r.length=n)->es.flatten.length=es.length*n
 | [],_=>oe
 | r::es,h=>by rw[jd7,jx,J2 (λr a=>h r (by simp[a])),h r oe,js,qg3];omega
def Uh{w:cg}{b m:Nat}{e:TypeId}(h:Zp w b=some (m,e)):∃cs,w.heap[b]?=some (.cells cs e (0,0))/\cs.size=m:=by
 unfold Zp at h;split at h
 .rename_i cs a hc;simp only[qq,ju]at h;obtain⟨rfl,rfl⟩:=h;exact⟨cs,hc,rfl⟩
 .cases h
def abg[pq](f:Inv Wb okb W0 ok0 ds nt β a w σL){k b q:Nat}{M:List Loc}(vs:bo)(hb:β k=some b)(p:W0.heap.size<=b\/bs b)(t:∀k,k<1000000->pq.h0 k=some b->q+vs.length<=nOf k)(A:∀j,j<vs.length->k<1000000->(k+1,q+j)∈M)(z:2000000<=k->(k+1,0)∈M):Dc σL W0 ok0 β w W0 ok0 β (w.setCells b q vs) M where
 nk:=f.nk
 qQ:=f.hnd λo c g e=>by
  by_cases l:c=b
  .subst l;refine⟨IG _ _ _ _,λd C=>⟨World.cell?_setCells_out c _ q w ⟨c,d,none⟩ (λ_ _=>?_),World.frozen?_setCells c _ q w _⟩⟩;have:=t o g e;show d<q\/q+_<=d;omega
  .exact QP (o7 b c l _ _ _)
 gr:=by have⟨D,E,F⟩:=wm b vs q w;exact⟨D.trans f.gr.os,E.trans f.gr.tape,F.trans f.gr.output,by rw[setCells_size];exact f.gr.size,λi u y=>(o7 b i (λe=>by subst e;rcases p with h|h;omega;exact y h) _ _ _).trans (f.gr.block i u y)⟩
 new:=λk b e=>by rw[setCells_size];exact f.new k b e
 inj:=f.inj
 sub:=λ_ _ _ e=>e
 fresh:=λ_ _ e=>.inl e
 keep:=⟨by rw[setCells_size];exact jj _,λc B r=>⟨r,λd=>ke (o7 b c (λe=>by
  subst e;rcases r with m|m
  .rcases p with h|h
   .omega
   .exact (f.qQ.1 c h).1 m.2
  .exact m.2 k hb) _ _ _)⟩⟩
 nT:=λo c g e v=>⟨e,o7 b c (λl=>by subst l;obtain rfl:=f.inj o k c e hb;exact v (z g)) _ _ _⟩
 alive:=λn _ c e=>⟨e,by
  by_cases l:c=b
  .subst l;exact IG _ _ _ _
  .exact ko (o7 b c l _ _ _)⟩
 own:=λo c d g e _ v=>by
  refine⟨World.cell?_setCells_out b _ q w ⟨c,d,none⟩ (λs _=>?_),World.frozen?_setCells b _ q w _⟩;have s:c=b:=s;subst s;obtain rfl:o=k:=f.inj o k c e hb;show d<q\/q+_<=d;rcases jf5 d q with m|m
  .exact .inl m
  .rcases jf5 d (q+vs.length)with x|x
   .exfalso;apply v;have:=A (d - q) od g;rwa [show q+(d - q)=d by omega]at this
   .exact .inr x
def A1.Ke{A:A1}{x:X}(a:x∈A.xs){n:Nat}(hn:n∈x.keys):n∈A.keys:=by
 cases A with
 | one z=>simp only[A1.xs,qv]at a;subst a;exact hn
 | agg zs=>simp only[A1.keys,qb2];exact⟨x,a,hn⟩
def TP[pq](I:Inv Wb okb W0 ok0 ds nt β a w σL){t:TypeId}{x y:Operand}(ho:o.op =.store t x y)(h:Dk P T C σ o=some (u,C',ob))(H:CK β (okB W0.heap.size ok0 β) a w σ o)(HK:VX σL σ o)(bk:∀p∈ob,p.2)(L:∀x∈u.rd,get σL x=get σ x):C'=C/\Comes P Wb okb W0 ok0 β a w σL o u:=by
 simp only[Dk,ho]at h;have Z:=H x (by simp[ho,Op.operands]);have hy:=H y (by simp[ho,Op.operands])
 -- what is written
 have wr:∀{A:A1} {i:TypeInfo} {b q:Nat} {K:Act->cg->Prop} {Q:Exit->Act->cg->Prop},tC σ y=some (.of A)->P.info? t=some i->A.xs.length=i.size->A.xs.all X.plain->a.eval x =.pointer (some ⟨b,q,none⟩)->(∀j,j<A.xs.length->(w.cell? ⟨b,q+j,none⟩).isSome/\w.frozen? ⟨b,q+j,none⟩=false)->K (a.put o.dst undef) (w.setCells b q (a.eval y).cells.toList)->o.wp P a w K Q:=λ{A i b q K Q} V hi F f ex s hK=>by
  have W:=gm.cells (hy _ V) f;have U:=W.length;have an:∀v∈(a.eval y).cells.toList,v.oneCell':=λv hv=>by
   have⟨j,D⟩:=qh3 hv;have l:j<A.xs.length:=by rw[<-U];exact (qT.1 D).1
   have⟨v',c1,c2⟩:=W.get _ _ (qu l);rw[D]at c1;simp only[qq]at c1;subst c1;exact jE c2 (kd.1 f _ (yy l))
  have az:=run_storeCells_cells (P:=P) b q (a.eval y).cells.toList 0 w (λj D=>by rw[qf3];exact (s j od).1) (λj D=>by rw[qf3];exact (s j od).2) an;rw[qf3]at az;have ax:(execOp a.eval o).run P w =.ok .skip (w.setCells b q (a.eval y).cells.toList):=by simp[execOp,ho,Instr.storeAt,ex,Instr.sureAddr,storeVar,run_sizeOf hi,Result.andThen,show (a.eval y).cells.size=i.size by rw[<-ja0];omega];exact by simpa[Result.andThen]using congrArg (λr=>Result.andThen r λ(_:Unit) w'=>(Result.ok Next.skip w':Result Next)) az
  unfold Oper.wp;rw[ax];exact hK
 split at h<;>try (cases h;done)
 .rename_i k q A i hd e1 V hi;split at h<;>try (cases h;done)
  rename_i hc;have⟨F,f,ad,g,bm⟩:=hc;simp only[qq,ju]at h;obtain⟨rfl,rfl,rfl⟩:=h;have⟨b,R,ex⟩:=Z _ e1;have⟨xs,h1⟩:=qf4.1 ad;have⟨_,vs,hr,S⟩:=EL I R h1 (λx Z=>L x (by simp[Z]));have W:=gm.cells (hy _ V) f;have U:=W.length;have bn:=hr.length.trans (mJ _ _ _ h1).1;have s:∀j,j<A.xs.length->(w.cell? ⟨b,q+j,none⟩).isSome/\w.frozen? ⟨b,q+j,none⟩=false:=λj D=>by
   have l:j<vs.length:=od
   have:=S j _ (qu l);exact⟨by rw[this.1];rfl,this.2⟩
  have ak:k<1000000:=R.2;replace R:=R.1;have O:(W0.heap.size<=b\/800000<=k/\pq.h0 k=some b):=by
   rw[<-L (1000001,0) oe,<-L (1000001,k+1) oe]at g;have⟨v1,v2⟩:=I.FK
   cases hg:get σL (1000001,0)with
   | none=>exact ((v1 hg).2 k b R).imp (·.1) (λ⟨k0,q1,q2,_⟩=>by obtain⟨q2,rfl⟩:=q2 ak;exact⟨q2,q1⟩)
   | some v =>
    obtain⟨i,rfl,g1,gf,g2⟩:=v2 v hg;rw[hg]at g
    cases ab:get σL (1000001,k+1)with
    | none=>rw[ab]at g;simp[W9,Aj,verN]at g
    | some v' =>
     obtain⟨j,rfl,j2,j3⟩:=g2 k v' ab;rw[ab]at g;simp[W9,Aj,verN]at g;exact .inl (j3 g.symm b R)
  have m:=abg I (q:=q) (M:=(oC k q A.xs).map (·.1)) (a.eval y).cells.toList R (O.imp id (λh=>⟨k,h.2⟩)) (λk2 ah e=>by
   rcases O with h|⟨h1,h2⟩
   .have:=(I.qQ.1 b ⟨k2,e⟩).2;omega
   .obtain rfl:=I.qQ.2.2 k2 k b e h2;omega) (λj D _=>rF A.xs q j od) (λh=>od)
  refine⟨rfl,λK Q hK=>wr V hi F f ex s ?_⟩;have aj:∀x∈A.xs,∀n∈x.keys,(get σL (n+1,0)).isSome:=λx Z n G=>HK y (by simp[ho,Op.operands]) _ V n (A1.Ke Z G);refine hK W0 ok0 β _ undef m (fI.v _) (λz v B _ a'=>?_) (I.FK.skip (λz B=>?_)) (λn G=>by cases G) (λz v B n G=>?_)
  .obtain⟨j,c,rfl,D,rfl⟩:=oD _ _ _ _ B;have l:j<(a.eval y).cells.toList.length:=by rw[U];exact (qT.1 D).1
   have⟨v',c1,c2⟩:=W.get _ _ D;refine⟨b,v',c,⟨R,ak⟩,rfl,?_,?_,jm.kL m.keep m.sub _ _ (λn G=>m.alive n (aj c (ka D) n G)) c2⟩
   .rw[World.cell?_setCells_in b _ q w (λj D=>(s j od).1) j l];rw[qu l]at c1;exact c1
   .rw[World.frozen?_setCells];exact (s j od).2
  .simp only[kB]at B;obtain⟨⟨y1,y2⟩,B,rfl⟩:=B;obtain⟨j,c,rfl,_,_⟩:=oD _ _ _ _ B;show k+1≠1000001;omega
  .obtain⟨j,c,rfl,D,rfl⟩:=oD _ _ _ _ B;exact get_mono _ _ _ (.inl (aj c (ka D) n G))
 .rename_i k q A i hd e1 V hi;split at h<;>try (cases h;done)
  rename_i el n es hg;split at h<;>try (cases h;done)
  rename_i hc;have⟨F,ba,f,bh,ah⟩:=hc;simp only[qq,ju]at h;obtain⟨rfl,rfl,rfl⟩:=h;have hq:q+i.size<=es.length*n:=bk (true,_) (qv.2 rfl);have hL:=(I.rep (k+1,0) _ (λe=>by have e:k+1=1000001:=e;omega) ((L (k+1,0) oe).trans hg)).2;have aO:=hL;have⟨b,cs,c,h3,N,S,ae,bb,G,ar,_⟩:=hL;have⟨b0,ex,R⟩:=Z _ e1;obtain rfl:=R b h3.1;have W:=gm.cells (hy _ V) f;have U:=W.length;have bq:es.length*n<=cs.size:=by rw[S];exact ja3 _ ae
  have s:∀j,j<A.xs.length->(w.cell? ⟨b,q+j,none⟩).isSome/\w.frozen? ⟨b,q+j,none⟩=false:=λj D=>by
   have : q+j<cs.size:=od
   exact⟨by simp[World.cell?,N,this],by simp[World.frozen?,N]⟩
  have O:=(I.FK.1 ((L (1000001,0) oe).trans (qa6.1 bh))).2 k b h3.1;have m:=abg I (q:=q) (M:=[(k+1,0)]) (a.eval y).cells.toList h3.1 (nT O) (λk2 ah e=>by
   rcases O with⟨h,_⟩|⟨k0,h1,_,h2⟩
   .have:=(I.qQ.1 b ⟨k2,e⟩).2;omega
   .obtain rfl:=I.qQ.2.2 k2 k0 b e h1;have:=h2 od;omega) (λj D h=>od) (λh=>oe)
  have bl:=J2 ar;refine⟨rfl,λK Q hK=>wr V hi F f ex s ?_⟩;refine hK W0 ok0 β _ undef m (fI.v _) (λz v B _ a'=>?_) (I.FK.skip (λz B=>?_)) (λn G=>by cases G) (λz v B n G=>?_)
  .simp only[qv,ju]at B;obtain⟨rfl,rfl⟩:=B;have⟨aa,q1,q2⟩:=Uh ((IG b w (a.eval y).cells.toList q).trans (show Zp w b=some (cs.size,el) by simp[Zp,N]));have Y:(es.flatten.take q++(A.xs.map X.toD++es.flatten.drop (q+(A.xs.map X.toD).length))).length=es.length*n:=by simp only[jx,qc1,List.length_drop,qc3];omega
   refine⟨rfl,b,aa,c,h3,q1,q2.trans S,by rw[fw,nM];exact ae,bb,G,λr hr=>?_,λi2 r j x h4 h5=>?_⟩
   .have⟨i2,bc⟩:=qh3 hr;exact (uU n _ _ Y i2 r bc).1
   .have J:=(uU n _ _ Y i2 r h4).2 j x h5;have E:∀u,(w.setCells b q (a.eval y).cells.toList).cell? ⟨b,i2*n+j,none⟩=some u->aa[i2*n+j]?=some u:=λu hu=>by simpa[World.cell?,q1]using hu
    generalize i2*n+j=p at J E;have aC:∀x,es.flatten[p]?=some x->(p<q\/q+A.xs.length<=p)->∃u,aa[p]?=some u/\fI (okB W0.heap.size ok0 β) (w.setCells b q (a.eval y).cells.toList) x u:=λx Z hp=>by have⟨u,u1,u2⟩:=aO.cells h3.1 Z;exact⟨u,E u (by rw[World.cell?_setCells_out b _ q w ⟨b,p,none⟩ (λ_ _=>by show p<q\/_<=p;omega)];exact u1),u2.keep m.keep⟩
    rcases jf5 p q with hp|hp
    .rw[zd vc,qe4,if_pos hp]at J;exact aC x J (.inl hp)
    .have e0:(es.flatten.take q).length=q:=by rw[qc1];omega
     rw[xf od]at J;rw[e0]at J;rcases jf5 p (q+A.xs.length)with aq|aq
     .rw[zd ov,qb0,qS]at J;obtain⟨z,z1,rfl⟩:=J;have⟨u,u1,u2⟩:=W.get _ _ z1;have B:=kd.1 ba _ (ka z1);have l:p - q<(a.eval y).cells.toList.length:=by omega
      refine⟨u,E u ?_,?_⟩
      .have:=World.cell?_setCells_in b _ q w (λj D=>(s j od).1) (p - q) l;rw[show q+(p - q)=p by omega]at this;rw[this];rw[qu l]at u1;exact u1
      .cases z with
       | d y=>exact fI.keep u2 m.keep
       | _=>cases B
     .rw[xf ov,qh6]at J;simp only[qc3]at J;rw[show q+A.xs.length+(p - q - A.xs.length)=p by omega]at J;exact aC x J (.inr aq)
  .simp only[qc0,qh5,qv]at B;subst B;show k+1≠1000001;omega
  .simp only[qv,ju]at B;obtain⟨rfl,rfl⟩:=B;cases G
def flat_get{n:Nat}(z:List X)(c:z.length=n):∀(k i:Nat),i<k*n->(List.replicate k z).flatten[i]?=z[i % n]?
 | 0,i,h=>od
 | k+1,i,h=>by
  rw[List.replicate_succ,jd7,List.getElem?_append];split
  .rename_i a;rw[c]at a;rw[je5 a]
  .rename_i b;rw[c]at b|-;rw[qg3]at h;rw[flat_get z c k (i - n) od,<-Nat.mod_eq_sub_mod od]
def J5[pq](l:Inv Wb okb W0 ok0 ds nt β a w σL){d n:Nat}{t:TypeId}{es:List bd}{w':cg}{v:cm}{K:cm->cg->Prop}(H:get σL (fC d+1,0)=none)(I:get σL (1000001,0)=none)(p:cq w w' none)(Z:Jh (okB W0.heap.size ok0 β) w w' t n es v)
 (hK:∀N s β' w' val,Dc σL W0 ok0 β w N s β' w' [(fC d+1,0)]->iZ β' (okB N.heap.size s β') w' (.of (.one (.g (fC d) n es.length))) val->(∀x v,(x,v)∈[((fC d+1,0),AV.kv t n es)]->x.1≠1000001->∀a',EH β' (okB N.heap.size s β') a' w' x v)->lU Wb okb N s β' ([((fC d+1,0),AV.kv t n es)]++σL)->sO ([((fC d+1,0),AV.kv t n es)]++σL) (.of (.one (.g (fC d) n es.length)))->(∀x v,(x,v)∈[((fC d+1,0),AV.kv t n es)]->sO ([((fC d+1,0),AV.kv t n es)]++σL) v)->K val w'):K v w':=by
 have⟨S,L⟩:=l.FK.1 I;obtain⟨b,cc,rfl,F,Y,R,hL⟩:=Z;have⟨A,cs,c2,T,z,W,G,V,Q,J,B⟩:=hL;have U:A=b:=by simpa using T.1.symm
 subst U;have E:A<w'.heap.size:=(kj.1 z).1
 let β2:Nat->Option Nat:=λk=>if k=fC d then some A else β k
 have hβd:β (fC d)=none:=by
  cases e:β (fC d)with
  | none=>rfl
  | some b=>have:=l.dom _ b e;rw[H]at this;cases this
 have β1:∀k b,β2 k=some b->(k=fC d/\b=A)\/β k=some b:=λk b h=>by
  simp only[β2]at h;split at h
  .rename_i O;simp only[qq]at h;exact .inl ⟨O,h.symm⟩
  .exact .inr h
 have β3:∀k b,β k=some b->β2 k=some b:=λk b h=>by simp only[β2];rw[if_neg (λO=>by subst O;rw[hβd]at h;cases h)];exact h
 have c:∀k b,β k=some b->b<w.heap.size:=λk b h=>(l.new k b h).2;have m:Dc σL W0 ok0 β w W0 ok0 β2 w' [(fC d+1,0)]:={
  gr:=gtr l.gr p
  new:=λk b h=>by
   rcases β1 k b h with⟨hk,rfl⟩|h
   .exact⟨.inl (.inl ⟨xo l.gr.size F,.inr (by rw[hk];unfold fC;omega)⟩),E⟩
   .exact⟨(l.new k b h).1,kh (c k b h) p.size⟩
  inj:=λk k' b h P=>by
   rcases β1 k b h with⟨rfl,rfl⟩|h<;>rcases β1 k' _ P with⟨rfl,O⟩|P
   .rfl
   .have:=c _ _ P;omega
   .have:=c _ _ h;omega
   .exact l.inj k k' b h P
  sub:=λk b _ h=>β3 k b h
  fresh:=λk b h=>by
   rcases β1 k b h with⟨rfl,_⟩|h
   .right;simp
   .exact .inl h
  keep:=⟨p.size,λb C o=>⟨by
   rcases o with o|o
   .exact .inl o
   .refine .inr ⟨o.1,λk h=>?_⟩;rcases β1 k b h with⟨_,rfl⟩|h
    .omega
    .exact o.2 k h,λq=>ke (p.block b C oe)⟩⟩
  own:=λk b q _ h _ _=>⟨ke (p.block b (c k b h) oe),qh4 (p.block b (c k b h) oe)⟩
  nT:=λk b _ h _=>⟨β3 k b h,p.block b (c k b h) oe⟩
  alive:=λn Q b h=>by
   rcases β1 n b h with⟨rfl,_⟩|h
   .rw[H]at Q;cases Q
   .exact⟨h,ko (p.block b (c n b h) oe)⟩
  nk:=by simp only[β2];rw[if_neg vf];exact l.nk
  qQ:=l.acW λb e=>p.block b (l.Zj e) oe }
 have hβg:β2 (fC d)=some A:=by simp[β2]
 refine hK W0 ok0 β2 w' _ m ⟨A,cc,rfl,Y,λb C=>by rw[hβg]at C;simp only[qq]at C;subst C;exact⟨rfl,t,R⟩⟩ (λy v M aa a'=>?_) ⟨λ_=>⟨S,λk b h=>?_⟩,λv hv=>?_⟩ (λk hk=>?_) (λy v M k hk=>?_)
 .simp only[qv,ju]at M;obtain⟨rfl,rfl⟩:=M;refine⟨rfl,A,cs,c2,⟨hβg,vf⟩,z,W,G,V,Q,J,λi r j x h1 h2=>?_⟩;have⟨u,u1,u2⟩:=B i r j x h1 h2;refine⟨u,u1,u2.keep ⟨jj _,λb C o=>⟨?_,λ_=>rfl⟩⟩⟩;rcases o.1 with f|f
  .rcases f with f|f
   .exact .inl f
   .refine .inr ⟨f.1,λk h=>?_⟩;rcases β1 k b h with⟨_,rfl⟩|h
    .exact o.2 rfl
    .exact f.2 k h
  .refine .inr ⟨.inl (xo l.gr.size f),λk h=>?_⟩;rcases β1 k b h with⟨_,rfl⟩|h
   .exact o.2 rfl
   .have:=c k b h;omega
 .rcases β1 k b h with⟨hk,rfl⟩|h
  .exact .inl ⟨xo l.gr.size F,.inr (by rw[hk];unfold fC;omega)⟩
  .exact L k b h
 .rw[get_skip [((fC d+1,0),AV.kv t n es)] _ _ (by simp[fC];omega),I]at hv;cases hv
 .simp only[jb5,AV.keys,A1.keys,X.keys,qv]at hk;subst hk;exact get_mono _ _ _ (.inr oe)
 .simp only[qv,ju]at M;obtain⟨rfl,rfl⟩:=M;cases hk
def TN[pq](O:Inv Wb okb W0 ok0 ds nt β a w σL){t:TypeId}{len:Nat}{f:Array (Nat×Operand)}(N:o.op =.buildSlice t len f)(h:Dk P T C σ o=some (u,C',ob))(H:CK β (okB W0.heap.size ok0 β) a w σ o)(ad:∀x∈u.rd,get σL x=get σ x)(R:∀x∈u.mem.map (·.1),get σL x=get σ x):Comes P Wb okb W0 ok0 β a w σL o u:=by
 simp only[Dk,N]at h;split at h<;>try (cases h;done)
 rename_i M ht;split at h<;>try (cases h;done)
 rename_i c z ps hi hz hp;split at h<;>try (cases h;done)
 rename_i hb;have⟨bb,S,F⟩:=hb;split at h<;>try (cases h;done)
 rename_i xs hf;split at h<;>try (cases h;done)
 rename_i ae;have az:c.zero=some z:=by rw[hi]at hz;exact hz
 have aq:=partsO_rep (a:=a) (β:=β) (ok:=okB W0.heap.size ok0 β) (w:=w) _ _ hp (λx hx=>H x (by simp[N,Op.operands]at hx|-;exact hx));have aa:dU (jm β (okB W0.heap.size ok0 β) w) (ofV z).xs z.cells.toList:=yK;have aC:z.cells.size=c.size:=by have:=aa.length;rw[ja0]at this;omega
 have I:0<c.size:=Nat.pos_of_ne_zero (λe=>by rw[e]at S;simp at S);have h0:dU (jm β (okB W0.heap.size ok0 β) w) (List.replicate len (ofV z).xs).flatten ((Array.range (len*c.size)).map (z.cells[· % z.cells.size]!)).toList:=by
  refine dU.of (by simp[F]) (λi x v B E=>?_);have Z:i<len*c.size:=by have:=(qT.1 B).1;simpa[F]using this
  rw[flat_get _ F _ _ Z]at B;have⟨v',A,L⟩:=aa.get _ _ B;rw[ja1]at A;simp only[ja1,Array.getElem?_map,Array.getElem?_range,Z,if_true,qg6,qq,aC]at E;rw[<-E,getElem!_def,A];exact L
 have⟨cs,f1,f2⟩:=Be _ _ _ _ _ _ aq h0 hf;have W:∀(ps:List (Nat×List X)) (ys G:List X),xB (λi=>some (i*c.size,c.size)) ys ps=some G->G.length=ys.length:=λps=>by
  induction ps with
  | nil=>intro ys G e;simp only[xB,qq]at e;rw[e]
  | cons p ps ih =>
   intro ys G e;have⟨i,zs⟩:=p;simp only[xB]at e;split at e
   .rename_i hc;rw[ih _ _ e];simp;omega
   .cases e
 have ar:xs.length=len*c.size:=by rw[W _ _ _ hf];simp[F]
 have U:cs.size=len*c.size:=by have:=f2.length;rw[ja0]at this;omega
 have V:=jg6 w (.cells cs M) none;have m:=O.grow V;have J:(execOp a.eval o).run P w =.ok (.value (.o (w.heap.size) len len)) (w.alloc (.cells cs M)):=by
  have aO:(zeroValue M).run P w =.ok z w:=by unfold zeroValue;rw[qc2,run_typeInfo _ hi];simp[Result.andThen,az]
  simp only[execOp,N,qc2,Instr.buildSlice,qa2 ht,Result.andThen,run_sizeOf hi];rw[oa];simp only[je3,qc2,Sem.run_ite];rw[oa];simp only[aO,Result.andThen,Array.toList_map];rw[show (List.map (λx=>(x.1,a.eval x.2)) f.toList)=(f.toList.map λ(i,x)=>(i,a.eval x)) from rfl,f1];rfl
 have q:(w.alloc (.cells cs M)).heap[w.heap.size]?=some (.cells cs M):=by show (w.heap.push _)[w.heap.size]?=_;simp
 have l:(xs.map X.toD).length=len*c.size:=by simp[ar]
 have Y:len<=maxLen:=by have : len<=len*c.size:=Nat.le_mul_of_pos_right _ I;unfold maxLen;omega
 have g:∀(i:Nat) (r:bd) (j:Nat) (x:D),(chunk c.size len (xs.map X.toD))[i]?=some r->r[j]?=some x->∃v,cs[i*c.size+j]?=some v/\fI (okB W0.heap.size ok0 β) w x v:=λi r j x B E=>by
  have hx:=(uU _ _ _ l i r B).2 j x E;simp only[qb0,qS]at hx;obtain⟨y,hy,rfl⟩:=hx;have⟨v,A,L⟩:=f2.get _ _ hy;rw[ja1]at A;have ax:y.clean:=kd.1 ae _ (ka hy)
  cases y with
  | d z=>exact⟨v,A,L⟩
  | _=>cases ax
 split at h
 .rename_i d hd;split at h<;>try (cases h;done)
  rename_i hc;have⟨bc,hk,an⟩:=hc;simp only[qq,ju]at h;obtain⟨rfl,rfl,rfl⟩:=h;refine λK Q hK=>zD J (J5 O (K:=λv w=>K (a.put o.dst v) w) ((R _ oe).trans (qa6.1 hk)) ((ad _ oe).trans (qa6.1 an)) V ⟨w.heap.size,len,by rw[nM],jj _,by rw[nM];exact jj _,by rw[Zp,q];simp only[U],w.heap.size,cs,len,⟨rfl,jj _⟩,q,U,by rw[nM];exact jj _,Y,I,λr hr=>?_,λi r j x B E=>?_⟩ (λW1 ba β' w' val m hr hm hv ak aj=>hK W1 ba β' w' val m hr hm hv ak aj))
  .have⟨i,ah⟩:=qh3 hr;exact (uU _ _ _ l i r ah).1
  .have⟨v,A,L⟩:=g i r j x B E;exact⟨v,A,L.keep ⟨m.keep.1,λb hb N=>⟨⟨.inl (m.keep.2 b hb N).1,od⟩,(m.keep.2 b hb N).2⟩⟩⟩
 .simp only[qq,ju]at h;obtain⟨rfl,rfl,rfl⟩:=h;refine λK Q hK=>zD J (hK W0 ok0 β _ _ m ?_ oe O.FK (λn hn=>by cases hn) oe);have ab:fI (okB W0.heap.size ok0 β) (w.alloc (.cells cs M)) (.s c.size (chunk c.size len (xs.map X.toD))) (.o (w.heap.size) (chunk c.size len (xs.map X.toD)).length len):=by
   refine .s (λi j=>(cs[i*c.size+j]?).getD undef) (by rw[nM];exact jj _) (by rw[nM];exact Y) (λi r hr=>(uU _ _ _ l i r hr).1) (λi r j x B E=>?_) (λi r j x B E=>?_)<;>have⟨v,A,L⟩:=g i r j x B E<;>rw[A]
   .refine⟨w.heap.size,0,rfl,.inr ⟨.inl O.gr.size,λk e=>?_⟩,by simp only[World.cell?,q,qb1];rw[A];rfl⟩;have:=(O.new k _ e).2;omega
   .exact L.keep m.keep
  rw[nM]at ab;exact ab
def LZ{ok:br}{n:Nat}{es:List bd}{l:bj}{len c:Nat}(h:fI ok w (.s n es) (.slice l len c))(hn:0<n):len=es.length/\(l=none->es=[])/\∃us:bo,us.length=es.length*n/\(∀q,l=some q->∀j u,us[j]?=some u->w.cell? (q.add j)=some u) /\
 ∀(i:Nat) (r:bd) (j:Nat) (x:D),es[i]?=some r->r[j]?=some x->∃u,us[i*n+j]?=some u/\fI ok w x u:=by
 have⟨B,G,U,e,hc,F,p,y⟩:=fH h;simp only[ye]at e;obtain⟨rfl,rfl,rfl⟩:=e;have k:∀i (d:i<es.length),es[i].length=n:=λi d=>p i _ (qu d);refine⟨rfl,λe=>?_,(List.range (es.length*n)).map λq=>U (q / n) (q % n),oe,λq e j u v=>?_,λi r j x m z=>?_⟩
 .cases es with
  | nil=>rfl
  | cons r rs =>
   have A:r.length=n:=p 0 r rfl;have h0:0<r.length:=od
   have⟨⟨b,o,f,_⟩,_⟩:=y 0 r 0 r[0] rfl (qu h0);rw[e]at f;cases f
 .have g:j<es.length*n:=by have:=(qT.1 v).1;simpa using this
  have d:j / n<es.length:=Nat.div_lt_of_lt_mul (by rw[jh4];exact g);have F:=Nat.mod_lt j hn;have A:=k _ d;have⟨⟨b,o,f,_,a⟩,_⟩:=y (j / n) _ (j % n) _ (qu d) (qu od);simp[g]at v;rw[e]at f;simp only[qq]at f;subst f;rw[add_eq,<-v,<-a,Nat.div_add_mod' j n]
 .have d:i<es.length:=(qT.1 m).1;have A:r.length=n:=p i r m;have g:j<n:=by have:=(qT.1 z).1;omega
  have t:i*n+j<es.length*n:=by have : (i+1)*n<=es.length*n:=ja3 _ d;rw[qg3]at this;omega
  refine⟨U i j,?_,(y i r j x m z).2⟩;have C:(i*n+j) / n=i:=by rw[jh4,Nat.mul_add_div hn,Nat.div_eq_of_lt g];rfl
  have E:(i*n+j) % n=j:=by rw[jh4,Nat.mul_add_mod,je5 g]
  simp[t,C,E]
def KL{ok:br}{n:Nat}{rows:List bd}{l:Addr}{k m:Nat}(z:fI ok w (.s n rows) (.slice (some l) k m))(b:0<n)(h:jl rows){a:bo}(C:a.length=rows.length*n)(A:∀(i:Nat) (r:bd) (j:Nat) (x:D),rows[i]?=some r->r[j]?=some x->∃u,a[i*n+j]?=some u/\fI ok w x u):∀u∈a,u.oneCell':=λu y=>by
 obtain⟨q,p,rfl⟩:=qc5 y;have g:q<rows.length*n:=od
 have e:q / n<rows.length:=Nat.div_lt_of_lt_mul (by rw[jh4];exact g);have⟨_,_,_,_,_,_,f,_⟩:=fH z;have t:=f _ _ (qu e);have B:=Nat.mod_lt q b;have⟨v,c,o⟩:=A (q / n) _ (q % n) _ (qu e) (qu od);rw[Nat.div_add_mod' q n,qu p]at c;simp only[qq]at c;rw[c];refine jE (β:=λ_=>none) (x:=.d (rows[q / n][q % n]'od)) o ?_;have:=kd.1 h _ (yy e);exact kd.1 this _ (yy _)
def AU{P:Program}{w:cg}{t ty e:TypeId}{b:TypeInfo}(g:P.underlying t=some (.slice e))(hi:P.info? e=some b)(a:bj)(n c:Nat)(d:bj)(f:Nat)(h:n<=c):(Builtin.append_ #[t,t] ty #[.slice a n c,.slice d 0 f]).run P w =.ok (.slice a n c) w:=by
 cases a<;>cases d<;>simp[Builtin.append_,qa2 g,sizeOf,typeInfo,hi,Builtin.lenOf,Builtin.firstCells,h,storeCells,loadCells,loadCellsFrom,Result.andThen]
def LD{ok:br}{n:Nat}{xs ys:List bd}{us vs:bo}(g:us.length=xs.length*n)(h:∀(i:Nat) (r:bd) (j:Nat) (x:D),xs[i]?=some r->r[j]?=some x->∃u,us[i*n+j]?=some u/\fI ok w x u)(k:∀(i:Nat) (r:bd) (j:Nat) (x:D),ys[i]?=some r->r[j]?=some x->∃u,vs[i*n+j]?=some u/\fI ok w x u):∀(i:Nat) (r:bd) (j:Nat) (x:D),(xs++ys)[i]?=some r->r[j]?=some x->∃u,(us++vs)[i*n+j]?=some u/\fI ok w x u:=λi y j x b d=>by
 by_cases e:i<xs.length
 .rw[zd e]at b;have⟨v,a,c⟩:=h i y j x b d;exact⟨v,by rw[zd (qT.1 a).1];exact a,c⟩
 .rw[xf od]at b;have⟨v,a,c⟩:=k (i - xs.length) y j x b d;refine⟨v,?_,c⟩;have f:i*n+j=us.length+((i - xs.length)*n+j):=by
   rw[g,Nat.sub_mul];have:=ja3 n (Nat.not_lt.1 e);omega
  rw[f,xf od,Nat.add_sub_cancel_left];exact a
def L2.get{α β:Type}{R:α->β->Prop} : ∀{l:List α}{r:List β},L2 R l r->l.length=r.length/\∀(i:Nat) (y:β),r[i]?=some y->∃x,l[i]?=some x/\R x y
 | [],[],_=>⟨rfl,λi y h=>by simp at h⟩
 | x::l,y::r,⟨b,c⟩=>by
  have⟨e,k⟩:=L2.get c;refine⟨by simp[e],λi z a=>?_⟩
  cases i with
  | zero=>simp only[kO,qq]at a;subst a;exact⟨x,rfl,b⟩
  | succ i=>have⟨u,d,f⟩:=k i z (by simpa using a);exact⟨u,by simpa using d,f⟩
def Bv{ok:br}{x y:D}{v:cm}(h:Ja x y)(b:fI ok w x v):fI ok w y v:=by
 rcases h with rfl|⟨rfl,n,f,rfl⟩
 .exact b
 .obtain⟨a,c,U,rfl,d,e,_⟩:=fH b;exact .s U d e oe oe oe (λh=>absurd h f)
def WL[pq](B:Inv Wb okb W0 ok0 ds nt β a w σL){s x:Operand}{t e:TypeId}(U:o.op =.call ⟨.builtin .append,#[s,x],#[t,t]⟩)(hu:P.underlying t=some (.slice e)){A:List Nat}{n l n':Nat}{es rows:List bd}(h:Qu P T σ o C e A n l es n' rows=some (u,C',ob))(cc:∀p∈ob,p.2)(cl:∀x∈u.rd,get σL x=get σ x)(bc:∀x∈u.mem.map (·.1),get σL x=get σ x)
 (hs:(A=[]/\es=[]/\l=0/\a.eval s =.n0)\/∃k b c e',A=[k]/\a.eval s =.o b l c/\β k=some b/\nA β (okB W0.heap.size ok0 β) w k e n es/\Zp w b=some (c*n,e')) (hx:fI (okB W0.heap.size ok0 β) w (.s n' rows) (a.eval x)):Comes P Wb okb W0 ok0 β a w σL o u:=by
 unfold Qu at h;split at h<;>try (cases h;done)
 rename_i d f z cI hi hz;split at h<;>try (cases h;done)
 rename_i hc;obtain⟨rfl,rfl,cF,I,cL,ca,cw⟩:=hc;simp only[qq,ju]at h;obtain⟨rfl,rfl,rfl⟩:=h;have hE:=cc (true,_) (je7 ..);have hO:=cc (true,_) (jf7 _ (qv.2 rfl));simp only at hE hO;generalize Zb T (fC d) (es.take l++rows)=E at *;have ak:=hE.get;have⟨⟨cQ,aC⟩,cz,b1,b2⟩:=hO;have cE:f.zero=some z:=by rw[hi]at hz;exact hz
 have⟨ax,cx,Ux,e3,_⟩:=fH hx;rw[e3]at hx;have⟨_,cv,ch,ln,cn,rn⟩:=LZ hx I
 cases ax with
 | none=>exact absurd (cv rfl) aC
 | some ax =>
  have cj:=KL hx I cz ln rn;have⟨_,_,_,_,_,_,cA,_⟩:=fH hx;have ae:get σL (1000001,0)=none:=(cl _ oe).trans (qa6.1 cw);have⟨ck,J⟩:=B.FK.1 ae;have bx:get σL (fC d+1,0)=none:=(bc _ oe).trans (qa6.1 ca);have hβd:β (fC d)=none:=by
   cases e:β (fC d)with
   | none=>rfl
   | some b=>have:=B.dom _ b e;rw[bx]at this;cases this
  have bq:(es.take l).length=l:=vc
  have an:(∃O:bo,w.ownsRow 0 e f.size (a.eval s) l O/\(∀(i:Nat) (r:bd) (j:Nat) (x:D),(es.take l)[i]?=some r->r[j]?=some x->∃u,O[i*f.size+j]?=some u/\fI (okB W0.heap.size ok0 β) w x u))/\(∀b,(a.eval s).ownBlock=some b->∃k∈A,β k=some b)/\(∀k∈A,2000000<=k/\β k=(a.eval s).ownBlock)/\∀r∈es.take l,r.length=f.size:=by
   rcases hs with⟨rfl,rfl,rfl,aj⟩|⟨k,b,c,e',rfl,aj,hk,hL,hS⟩
   .rw[aj];exact⟨⟨[],jd5 _ _ _ _,oe⟩,Of,oe,oe⟩
   .have⟨b',cs,c',h3,H,R,cM,ar,_,N,aq⟩:=hL;have cp:b'=b:=by have:=h3.1;rw[hk]at this;simpa using this.symm
    subst cp;have cr:c'=c:=by simp only[Zp,H,qq,ju]at hS;exact Nat.eq_of_mul_eq_mul_right I (R.symm.trans hS.1)
    subst cr;rw[aj];have cP:l*f.size<=cs.size:=by rw[R];exact ja3 _ od
    refine⟨⟨cs.toList.take (l*f.size),⟨by rw[qc1,ja0];omega,.inr ⟨b',c',cs,rfl,yv _,H,od,ar,R,rfl⟩⟩,λi r j x Z M=>?_⟩,λb2 bh=>⟨k,oe,by simp[Value.ownBlock]at bh;rw[<-bh];exact hk⟩,λW az=>by simp only[qv]at az;subst az;exact⟨h3.2,hk⟩,λr hr=>N r (qe6 hr)⟩;have bm:i<l:=by have:=(qT.1 Z).1;omega
    rw[qe4,if_pos bm]at Z;have⟨u,u1,u2⟩:=aq i r j x Z M;have cN:j<f.size:=by rw[<-N r (ka Z)];exact (qT.1 M).1
    have : (i+1)*f.size<=l*f.size:=ja3 _ bm;rw[qg3]at this;exact⟨u,by rw[qe4,oc];simpa using u1,u2⟩
  have⟨⟨O,cb,ro⟩,ab,Y,N⟩:=an;have⟨g,ah,w',cf,cd,L,S,bl⟩:=run_append_lies (P:=P) w t o.type 0 e f z f.size f.bytes hu hi cE rfl rfl cF I (a.eval s) l O cb ax rows.length cx ch ln (cn ax rfl) cj (List.length_pos_iff.2 aC) b1 b2 (yv _) w.heap.size rfl;have cy:∀b,(a.eval s).ownBlock=some b->ownB W0.heap.size (fC d) b/\b<w.heap.size:=λb V=>by have⟨k,hm,hk⟩:=ab b V;exact⟨abB (J k b hk) (Y k hm).1 vf,(B.new k b hk).2⟩
  have bb:∀k b,β k=some b->k ∉ A->b≠g:=λk b V hk G=>by
   subst G;rcases S with S|S
   .have⟨k0,m0,h0⟩:=ab b S;exact hk (B.inj k k0 b V h0 ▸ m0)
   .have:=(B.new k b V).2;omega
  have blk:∀b,b<w.heap.size->(∀k∈A,β k≠some b)->w'.heap[b]?=w.heap[b]?:=λb V hk=>L.block b V (λG=>by have⟨k,m1,Z⟩:=ab b G.symm;exact hk k m1 Z)
  let β':Nat->Option Nat:=λk=>if k=fC d then some g else if k∈A then none else β k
  have β1:∀k b,β' k=some b->(k=fC d/\b=g)\/(β k=some b/\k ∉ A/\k≠fC d):=λk b h=>by
   simp only[β']at h;split at h
   .rename_i G;simp only[qq]at h;exact .inl ⟨G,h.symm⟩
   .split at h
    .cases h
    .rename_i e1 G;exact .inr ⟨h,G,e1⟩
  have β2:∀k b,β k=some b->k ∉ A->β' k=some b:=λk b h hk=>by simp only[β'];rw[if_neg (λG=>by subst G;rw[hβd]at h;cases h),if_neg hk];exact h
  have bk:ownB W0.heap.size (fC d) g:=by
   rcases S with S|S
   .exact (cy g S).1
   .rw[S];exact .inl ⟨B.gr.size,.inr vf⟩
  have m:Dc σL W0 ok0 β w W0 ok0 β' w' ((dH A++[((fC d+1,0),AV.kv e f.size E)]).map (λ(x:Loc×AV)=>x.1)):={
   gr:=⟨L.os.trans B.gr.os,L.tape.trans B.gr.tape,L.output.trans B.gr.output,xo B.gr.size L.size,λi hi hr=>(blk i (kh hi B.gr.size) (λk hm hk=>by
    rcases nT (J k i hk)with h|h
    .omega
    .exact hr h)).trans (B.gr.block i hi hr)⟩
   new:=λk b h=>by
    rcases β1 k b h with⟨hk,rfl⟩|⟨h,_⟩
    .exact⟨.inl (hk ▸ bk),bl⟩
    .exact⟨(B.new k b h).1,kh (B.new k b h).2 L.size⟩
   inj:=λk k' b h h'=>by
    rcases β1 k b h with⟨rfl,rfl⟩|⟨h,M,_⟩<;>rcases β1 k' _ h' with⟨rfl,G⟩|⟨h',h3,_⟩
    .rfl
    .exact absurd rfl (bb _ _ h' h3)
    .exact absurd G (bb _ _ h M)
    .exact B.inj k k' b h h'
   sub:=λk b hk h=>β2 k b h (λhm=>by have:=(Y k hm).1;omega)
   fresh:=λk b h=>by
    rcases β1 k b h with⟨rfl,_⟩|⟨h,_⟩
    .right;simp
    .exact .inl h
   keep:=⟨L.size,λb V U=>by
    have bn:∀k∈A,β k≠some b:=λk hk G=>by
     rcases U with U|U
     .exact Dr B.qQ (J k b G) U
     .exact U.2 k G
    refine⟨?_,λq=>ke (blk b V bn)⟩;rcases U with U|U
    .exact .inl U
    .refine .inr ⟨U.1,λk h=>?_⟩;rcases β1 k b h with⟨_,rfl⟩|⟨h,_⟩
     .rcases S with S|S
      .have⟨k0,m0,h0⟩:=ab b S;exact bn k0 m0 h0
      .omega
     .exact U.2 k h⟩
   own:=λk b q hk h _ _=>by have:=blk b (B.new k b h).2 (λW m2 M=>by have:=B.inj k W b h M;have:=(Y W m2).1;omega);exact⟨ke this,qh4 this⟩
   nT:=λk b hk h hn=>by have aa:k ∉ A:=λhm=>hn (by simp only[qa0,ki];left;simp only[dH,jg0,kB];exact⟨k,hm,rfl⟩);exact⟨β2 k b h aa,blk b (B.new k b h).2 (λW m2 M=>aa (B.inj k W b h M ▸ m2))⟩
   alive:=λk hk b h=>by
    rcases β1 k b h with⟨rfl,_⟩|⟨h,aa,_⟩
    .rw[bx]at hk;cases hk
    .exact⟨h,ko (blk b (B.new k b h).2 (λW m2 M=>aa (B.inj k W b h M ▸ m2)))⟩
   nk:=by
    simp only[β'];rw[if_neg vf];split
    .rfl
    .exact B.nk
   qQ:=B.hnd λW b az e=>QP (blk b (B.Zj ⟨W,e⟩) (λk hk M=>by
    rcases J k b M with⟨h,_⟩|⟨k0,Z,_,h3⟩
    .have:=(B.qQ.1 b ⟨W,e⟩).2;omega
    .obtain rfl:=B.qQ.2.2 W k0 b e Z;have:=h3 (by have:=(Y k hk).1;omega);omega)) }
  have⟨cJ,hh⟩:=cd;rcases hh with⟨h0,_⟩|⟨g2,cG,aO,h0,_,H,ad,ar,R,cD⟩
  .cases h0
  .simp only[ye,qq,jb2,and_true,true_and]at h0;obtain⟨rfl,rfl⟩:=h0;have hβg:β' (fC d)=some g:=by simp[β']
   have ct:(es.take l++rows).length=l+rows.length:=by rw[jx,bq]
   have ba:=LD (xs:=es.take l) (ys:=rows) (by rw[cb.1,bq]) ro rn;refine λK Q hK=>zD (v:=.o g (l+rows.length) ah) (w':=w') ?_ (hK W0 ok0 β' w' _ m ?_ (λy v F aC a'=>?_) ?_ ?_ (λy v F k hk=>?_))
   .simp[execOp,U,resolve,invoke,builtin,e3,cf,Result.andThen]
   .exact⟨g,ah,rfl,ad,λb V=>by rw[hβg]at V;simp only[qq]at V;subst V;exact⟨rfl,e,by simp[Zp,H,R]⟩⟩
   .simp only[ki,qv]at F;rcases F with F|F
    .simp only[dH,kB]at F;have⟨k,_,F⟩:=F;simp only[ju]at F;obtain⟨rfl,rfl⟩:=F;trivial
    .simp only[ju]at F;obtain⟨rfl,rfl⟩:=F;refine⟨rfl,g,aO,ah,⟨hβg,vf⟩,H,R,by rw[<-ak.1,ct];exact ad,ar,I,λr hr=>?_,λi r j x Z M=>?_⟩
     .have⟨i,hi⟩:=qh3 hr;have⟨r',q1,q2⟩:=ak.2 i r hi;rw[<-q2.get.1];rcases ki.1 (ka q1)with hr|hr
      .exact N r' hr
      .have⟨i,hi⟩:=qh3 hr;exact cA i r' hi
     .have⟨r',q1,q2⟩:=ak.2 i r Z;have⟨x',q3,q4⟩:=q2.get.2 j x M;have⟨u,u1,u2⟩:=ba i r' j x' q1 q3;rw[<-cD]at u1;have : aO.toList[i*f.size+j]?=some u:=vJ u1;exact⟨u,by simpa using this,Bv q4 (u2.keep m.keep)⟩
   .have cC:get ((dH A++[((fC d+1,0),AV.kv e f.size E)])++σL) (1000001,0)=none:=by
     rw[get_skip _ _ _ (λhm=>?_)]
     .exact ae
     .simp only[qa0,ki,qc0,qh5,qv,dH,jg0,kB]at hm;rcases hm with⟨k,hk,G⟩|G
      .have:=(Y k hk).1;simp only[Function.comp,ju]at G;omega
      .simp only[ju,fC]at G;omega
    refine⟨λ_=>⟨ck,λk b h=>?_⟩,λv hv=>?_⟩
    .rcases β1 k b h with⟨hk,rfl⟩|⟨h,_⟩
     .exact hk ▸ bk
     .exact J k b h
    .rw[cC]at hv;cases hv
   .intro k hk;simp only[jb5,AV.keys,A1.keys,X.keys,qv]at hk;subst hk;exact get_mono _ _ _ (.inr oe)
   .simp only[ki,qv]at F;rcases F with F|F
    .simp only[dH,kB]at F;have⟨_,_,F⟩:=F;simp only[ju]at F;obtain⟨rfl,rfl⟩:=F;cases hk
    .simp only[ju]at F;obtain⟨rfl,rfl⟩:=F;cases hk
def P7[pq](O:Inv Wb okb W0 ok0 ds nt β a w σL){c:Call}(Z:o.op =.call c)(hc:c.callee =.builtin .append)(h:Dk P T C σ o=some (u,C',ob))(H:CK β (okB W0.heap.size ok0 β) a w σ o)(HK:VX σL σ o)(S:∀p∈ob,p.2)(ab:∀x∈u.rd,get σL x=get σ x)(X:∀x∈u.mem.map (·.1),get σL x=get σ x):Comes P Wb okb W0 ok0 β a w σL o u:=by
 simp only[Dk,Z,hc]at h;split at h<;>try (cases h;done)
 rename_i s x t t' M aa;have⟨cl,args,ts⟩:=c;simp only at hc M aa;subst hc;have ha:args=#[s,x]:=by rw[<-M]
 have bx:ts=#[t,t']:=by rw[<-aa]
 subst ha bx;have Hs:=H s (by simp[Z,Op.operands,Call.operands]);have Hx:=H x (by simp[Z,Op.operands,Call.operands]);split at h
 .rename_i A hA;split at h<;>try (cases h;done)
  rename_i e n' rows hu I;split at h<;>try (cases h;done)
  rename_i hc;obtain⟨rfl,R⟩:=hc;have⟨f,R⟩:=qf4.1 R;simp only[qq,ju]at h;obtain⟨rfl,rfl,rfl⟩:=h;obtain⟨e1,rfl,hS⟩:=S (true,_) (qv.2 rfl);have⟨ax,cx,_,e3,_⟩:=fH (Hx _ I);have hv:∃ad n c,a.eval s =.slice ad n c/\n<=c:=by
   have hr:=Hs _ e1
   match A,hS,hr with
   | .one (.g k n l),_,⟨b0,c,h1,W,_⟩=>exact⟨_,_,_,h1,W⟩
   | .one (.d (.s n L)),_,hr =>
    have⟨ad,c,U,h1,W,_⟩:=fH (show fI _ w (.s n L) _ from hr);exact⟨_,_,_,h1,W⟩
  have⟨ad,n,c,e4,bk⟩:=hv;refine λK Q hK=>zD (v:=a.eval s) (w':=w) ?_ (hK W0 ok0 β w _ (O.grow ⟨rfl,rfl,rfl,jj _,λ_ _ _=>rfl⟩) (Hs _ e1) oe O.FK (HK s (by simp[Z,Op.operands,Call.operands]) _ e1) oe);have E:=AU (P:=P) (w:=w) (ty:=o.type) hu R ad n c ax cx bk;rw[show ([]:List bd).length=0 from rfl]at e3;simp[execOp,Z,resolve,invoke,builtin,e3,e4,E,Result.andThen]
 split at h<;>try (cases h;done)
 rotate_left
 .rename_i e k n l n' rows hu J I;split at h<;>try (cases h;done)
  rename_i e' m L hg;split at h<;>try (cases h;done)
  rename_i hb;obtain⟨rfl,rfl,rfl,cf⟩:=hb;have⟨b0,c,e2,W,h3⟩:=Hs _ J;have bh:(k+1,0)∈u.rd:=by
   unfold Qu at h;split at h<;>try (cases h;done)
   split at h<;>try (cases h;done)
   simp only[qq,ju]at h;rw[<-h.1];simp[sV]
  have hL:=(O.rep (k+1,0) _ (λe=>by have e:k+1=1000001:=e;omega) ((ab _ bh).trans hg)).2;have bb:=hL;have⟨b,_,_,hb,_⟩:=hL;obtain⟨rfl,e3,h4⟩:=h3 b hb.1;exact WL O Z hu h S ab X (.inr ⟨k,b,c,e3,rfl,e2,hb.1,bb,h4⟩) (Hx _ I)
 .rename_i e n' rows hu J I;split at h<;>try (cases h;done)
  rename_i ht;subst ht;have⟨ad,c,U,e2,cb,_⟩:=fH (Hs _ J);have hz:=Hs _ J;rw[e2]at hz;obtain⟨rfl,rfl⟩:=Rv hz rfl;exact WL O Z hu h S ab X (.inl ⟨rfl,rfl,rfl,e2⟩) (Hx _ I)
 rename_i e n L n' r rs hu J I;split at h<;>try (cases h;done)
 rename_i f z R hz;split at h<;>try (cases h;done)
 rename_i hb;obtain⟨rfl,rfl,rfl,az,B,bn⟩:=hb;simp only[qq,ju]at h;obtain⟨rfl,rfl,rfl⟩:=h;have⟨b1,b2⟩:=S _ (qv.2 rfl);have ar:f.zero=some z:=by rw[R]at hz;exact hz
 have⟨ad,e2,aj⟩:=Hs _ J;have N:fI (okB W0.heap.size ok0 β) w (.s f.size (r::rs)) (a.eval x):=Hx _ I;have⟨ax,cx,Ux,e3,_⟩:=fH N;rw[e2]at aj;rw[e3]at N;have⟨_,bl,G,lo,co,ro⟩:=LZ aj B;have⟨_,bm,F,ln,cn,rn⟩:=LZ N B
 cases ax with
 | none=>exact absurd (bm rfl) oe
 | some ax =>
  have ba:=KL N B bn ln rn;have V:∃v' w',(Builtin.append_ #[t,t] o.type #[a.eval s,a.eval x]).run P w =.ok v' w'/\w'.ownsRow w.heap.size e f.size v' (L.length+(rs.length+1)) (G++F)/\cq w w' none:=by
   rw[e2,e3]
   cases ad with
   | some q=>exact run_append_arg_grows (P:=P) w t o.type e f z f.size f.bytes hu R ar rfl rfl az B q L.length L.length G lo (co q rfl) ax (rs.length+1) cx F (by simpa using ln) (cn ax rfl) od b1 b2
   | none =>
    obtain rfl:=bl rfl;obtain rfl:G=[]:=jz (by simpa using lo);have⟨v',w',E,r1,r2,_⟩:=run_append_own (P:=P) w w.heap.size t o.type e f z f.size f.bytes hu R ar rfl rfl az B (.n0) 0 [] (jd5 w _ e f.size) ax (rs.length+1) cx F (by simpa using ln) (cn ax rfl) ba (by simpa using b1) (by simpa using b2) (jj _);exact⟨v',w',E,by simpa using r1,r2⟩
  have⟨v',w',E,aq,bc⟩:=V;have m:=O.grow bc;refine λK Q hK=>zD (v:=v') (w':=w') ?_ (hK W0 ok0 β _ _ m ?_ oe O.FK (λn hn=>by cases hn) oe)
  .simp[execOp,Z,resolve,invoke,builtin,E,Result.andThen]
  .have⟨ca,hh⟩:=aq;rcases hh with⟨_,h0⟩|⟨g,aC,aO,rfl,hg,ak,an,cc,cd,bq⟩
   .omega
   .have ah:(L++r::rs).length=L.length+(rs.length+1):=by simp
    have ae:∀(q:Nat) (v:cm),(G++F)[q]?=some v->w'.cell? ⟨g,0+q,none⟩=some v:=λq v hv=>by rw[<-bq]at hv;have : aO.toList[q]?=some v:=vJ hv;simp only[World.cell?,ak,qb1];simpa using this
    have Y:=LD (xs:=L) (ys:=r::rs) lo ro rn;have V:fI (okB W0.heap.size ok0 β) w' (.s f.size (L++r::rs)) (.o g (L++r::rs).length aC):=by
     refine .s (λi j=>((G++F)[i*f.size+j]?).getD undef) (by rw[ah];exact an) (by rw[ah];exact b1) (λi y hy=>?_) (λi y j x h1 W=>?_) (λi y j x h1 W=>?_)
     .have⟨_,_,_,_,_,_,l1,_⟩:=fH aj;have⟨_,_,_,_,_,_,l2,_⟩:=fH N
      by_cases R:i<L.length
      .rw[zd R]at hy;exact l1 i y hy
      .rw[xf od]at hy;exact l2 _ y hy
     .have⟨v,e5,e6⟩:=Y i y j x h1 W;refine⟨g,0,rfl,.inr ⟨.inl (xo O.gr.size hg),λk e=>?_⟩,?_⟩
      .have:=(O.new k _ e).2;omega
      .rw[ae _ _ e5,e5];rfl
     .have⟨v,e5,e6⟩:=Y i y j x h1 W;rw[e5];exact e6.keep m.keep
    rw[ah]at V;exact V
def zI[pq](R:Inv Wb okb W0 ok0 ds nt β a w σL){okS:br}{x y:X}{v:cm}(O:∀b,okB W0.heap.size ok0 β b->okS b)(P:∀k∈x.keys,∀b,β k=some b->okS b)(h:mX σ x=some y)(T:∀p∈QS σ x,p.2)(B:∀k∈x.keys,get σL (k+1,0)=get σ (k+1,0))(z:jm β (okB W0.heap.size ok0 β) w x v):jm (λ_=>none) okS w y v/\∀k∈x.keys,2000000<=k:=by
 have hk:zH (okB W0.heap.size ok0 β) w okS w:=⟨jj _,λb _ h=>⟨O b h,λ_=>rfl⟩⟩
 cases x with
 | d x=>simp only[mX,qq]at h;subst h;exact⟨fI.keep z hk,λk hk=>by cases hk⟩
 | e cs o =>
  cases o with
  | zero=>simp only[mX,qq]at h;subst h;exact⟨fI.keep (jm.soft z) hk,λk hk=>by cases hk⟩
  | succ o=>cases h
 | g k n l =>
  simp only[mX]at h;split at h<;>try (cases h;done)
  rename_i e m J M;split at h<;>try (cases h;done)
  rename_i hc;obtain⟨rfl,F⟩:=hc;simp only[qq]at h;subst h;refine⟨?_,λZ t=>by simp only[X.keys,qv]at t;subst t;exact F⟩;have S:=(R.rep (k+1,0) _ (λe=>by have e:k+1=1000001:=e;omega) ((B k vp).trans M)).2;have⟨b,cs,c,L,f,D,E,U,V,A,q⟩:=S;obtain⟨W,N,rfl,_,Q⟩:=z;obtain⟨rfl,Y,K⟩:=Q b L.1;have G:l=J.length:=T (true,l=J.length) (by simp only[QS,M];simp);subst G;have C:c=N:=by simp only[Zp,f,qq,ju]at K;exact Nat.eq_of_mul_eq_mul_right V (D.symm.trans K.1)
  subst C;refine fI.s (λi j=>(cs[i*m+j]?).getD undef) E od (λi r z=>A r (ka z)) (λi r j x H I=>?_) (λi r j x H I=>?_) (λe=>od)<;>have⟨u,u1,u2⟩:=q i r j x H I<;>rw[u1]
  .exact⟨b,0,rfl,P k vp b L.1,by simp[World.cell?,f,u1]⟩
  .exact u2.keep hk
 | _=>cases h
def sealXs_get:∀{xs ys:List X},D7 σ xs=some ys->ys.length=xs.length/\∀(i:Nat) (y:X),ys[i]?=some y->∃x,xs[i]?=some x/\mX σ x=some y
 | [],ys,h=>by simp only[D7,qq]at h;subst h;simp
 | x::xs,ys,h=>by
  simp only[D7]at h;split at h<;>try (cases h;done)
  rename_i y l d e;simp only[qq]at h;subst h;have⟨b,c⟩:=sealXs_get e;refine⟨by simp[b],λi z a=>?_⟩
  cases i with
  | zero=>simp only[kO,qq]at a;subst a;exact⟨x,rfl,d⟩
  | succ i=>have⟨j,f,g⟩:=c i z (by simpa using a);exact⟨j,by simpa using f,g⟩
def zA[pq](z:Inv Wb okb W0 ok0 ds nt β a w σL){okS:br}{A B:A1}{v:cm}(t:∀b,okB W0.heap.size ok0 β b->okS b)(u:∀k∈A.keys,∀b,β k=some b->okS b)(h:wC σ A=some B)(C:∀p∈La σ A,p.2)(d:∀k∈A.keys,get σL (k+1,0)=get σ (k+1,0))(D:gm β (okB W0.heap.size ok0 β) w A v):gm (λ_=>none) okS w B v/\∀k∈A.keys,2000000<=k:=by
 cases A with
 | one x =>
  simp only[wC,qS]at h;obtain⟨y,h,rfl⟩:=h;exact zI z t u h (λp o=>C p (by simp only[La,A1.xs,qd5,jh1,qc4];exact o)) d D
 | agg F =>
  simp only[wC,qS]at h;obtain⟨G,h,rfl⟩:=h;have⟨I,s⟩:=sealXs_get h;obtain⟨E,rfl,m⟩:=D;have e:∀(i:Nat) (x y:X) (v:cm),F[i]?=some x->mX σ x=some y->E[i]?=some v->jm (λ_=>none) okS w y v/\∀k∈x.keys,2000000<=k:=λi x y v f q c=>by have n:=ka f;have⟨L,g,H⟩:=m.get _ _ f;rw[c]at g;simp only[qq]at g;subst g;exact zI z t (λk hk=>u k (A1.Ke n hk)) q (λp o=>C p (by simp only[La,A1.xs,qb2];exact⟨x,n,o⟩)) (λk hk=>d k (A1.Ke n hk)) H
  refine⟨⟨E,rfl,dU.of (by rw[m.length,I]) (λi y v f q=>?_)⟩,λk hk=>?_⟩
  .have⟨x,c,r⟩:=s i y f;exact (e i x y v c r q).1
  .simp only[A1.keys,qb2]at hk;have⟨x,J,hk⟩:=hk;have⟨i,j⟩:=qh3 J;have l:i<F.length:=(qT.1 j).1;have K:G[i]?=some G[i]:=qu od;have⟨M,c,r⟩:=s i _ K;rw[j]at c;simp only[qq]at c;subst c;exact (e i x _ _ j r (qu (by rw[m.length];exact l))).2 k hk
def xh{σ:St}{A B:A1}(h:wC σ A=some B):B.keys=[]:=by
 have a:∀{x y:X},mX σ x=some y->y.keys=[]:=λ{x y} h=>by
  cases x with
  | d z=>simp only[mX,qq]at h;subst h;rfl
  | e cs o =>
   cases o with
   | zero=>simp only[mX,qq]at h;subst h;rfl
   | succ o=>cases h
  | g k n l =>
   simp only[mX]at h;split at h<;>try (cases h;done)
   split at h<;>try (cases h;done)
   simp only[qq]at h;subst h;rfl
  | _=>cases h
 cases A with
 | one x =>
  simp only[wC,qS]at h;obtain⟨y,h,rfl⟩:=h;exact a h
 | agg m =>
  simp only[wC,qS]at h;obtain⟨p,h,rfl⟩:=h;have⟨_,b⟩:=sealXs_get h;simp only[A1.keys,List.flatMap_eq_nil_iff];intro y j;have⟨i,c⟩:=qh3 j;have⟨x,_,f⟩:=b i y c;exact a f
def jm.part{H:Hp}{β β':Nat->Option Nat}{ok ok':br}{w w':cg}(k:zH ok w ok' w')(z:∀n,H.bk n->n<1000000->∀b,β n=some b->β' n=some b)(A:∀n,H.lk n->BP β w β' w' n):∀(x:X) (v:cm),H.holds x->jm β ok w x v->jm β' ok' w' x v
 | .d x,v,_,h=>fI.keep h k
 | .p n o,v,a,⟨b,h,e⟩=>⟨b,⟨z n a h.2 b h.1,h.2⟩,e⟩
 | .g n m l,v,a,⟨t,c,r,s,C⟩=>⟨t,c,r,s,λb i=>by have⟨u,y⟩:=A n a b i;have⟨D,e,E⟩:=C b u;exact⟨D,e,y.trans E⟩⟩
 | .q n o,v,a,⟨t,r,s⟩=>⟨t,r,λb i=>s b (A n a b i).1⟩
 | .c f B,v,a,⟨r,s⟩=>by
  have i:∀n∈B,∃b,β n=some b/\β' n=some b/\n<1000000:=λn j=>by have⟨⟨b,e⟩,l⟩:=r n j;exact⟨b,e,z n (kd.1 a n j) l b e,l⟩
  refine⟨λn j=>?_,?_⟩
  .have⟨b,_,e,l⟩:=i n j;exact⟨⟨b,e⟩,l⟩
  .rw[s,List.map_congr_left];intro n j;have⟨b,u,y,_⟩:=i n j;rw[u,y]
def gm.part{H:Hp}{β β':Nat->Option Nat}{ok ok':br}{w w':cg}(b:∀x v,H.holds x->jm β ok w x v->jm β' ok' w' x v):∀(x:A1) (v:cm),H.CZ x->gm β ok w x v->gm β' ok' w' x v
 | .one x,v,a,h=>b x v (by simpa[Hp.CZ,A1.xs]using a) h
 | .agg g,v,a,⟨f,e,h⟩=>⟨f,e,h.P5 λx d u c=>b x u (kd.1 a x d) c⟩
def lH[pq](m:Inv Wb okb W0 ok0 ds nt β a w σL){H:Hp}{β':Nat->Option Nat}{okS:br}(j:∀b,okB W0.heap.size ok0 β b->okS b)(g:∀x v,H.holds x->jm β (okB W0.heap.size ok0 β) w x v->jm β' okS w x v):∀(xs:List Operand) (az:List A1) (ks:List Nat) (c:Obl),vW H σ xs=some (az,ks,c)->(∀p∈c,p.2)->(∀k∈ks,get σL (k+1,0)=get σ (k+1,0))->(∀k∈ks,∀b,β k=some b->okS b)->(∀x∈xs,∀v,tC σ x=some v->iZ β (okB W0.heap.size ok0 β) w v (a.eval x))->dU (gm β' okS w) az (xs.map a.eval)/\∀k∈ks,2000000<=k
 | [],az,ks,c,h,_,_,_,_=>by simp only[vW,qq,ju]at h;obtain⟨rfl,rfl,rfl⟩:=h;exact⟨trivial,oe⟩
 | x::xs,az,ks,c,h,f,d,l,i=>by
  simp only[vW]at h;split at h<;>try (cases h;done)
  rename_i A e;split at h
  .rename_i D;have⟨⟨E,F,G⟩,o,u⟩:=qS.1 h;simp only[ju]at u;obtain⟨rfl,rfl,rfl⟩:=u;have⟨s,t⟩:=lH m j g xs E F G o f d l (λy r=>i y (by simp[r]));exact⟨⟨gm.part g A _ D (i x oe _ e),s⟩,t⟩
  split at h<;>try (cases h;done)
  rename_i B q z o;simp only[qq,ju]at h;obtain⟨rfl,rfl,rfl⟩:=h;have⟨I,J⟩:=zA m j (λk hk=>l k (by simp[hk])) z (λp g=>f p (by simp[g])) (λk hk=>d k (by simp[hk])) (i x oe _ e);have⟨s,t⟩:=lH m j g xs q.1 q.2.1 q.2.2 o (λp g=>f p (by simp[g])) (λk hk=>d k (by simp[hk])) (λk hk=>l k (by simp[hk])) (λy r=>i y (by simp[r]));exact⟨⟨gm.kL ⟨jj _,λb _ h=>⟨h,λ_=>rfl⟩⟩ (λ_ _ _ e=>by cases e) _ _ (λn C=>by rw[xh z]at C;cases C) I,s⟩,λk hk=>by rcases ki.1 hk with hk|hk;exact J k hk;exact t k hk⟩
def QC{β β':Nat->Option Nat}{ok ok':br}{w:cg}(h:∀b,ok b->ok' b):∀x v,Hp.holds {} x->jm β ok w x v->jm β' ok' w x v:=λx v a e=>by
 cases x with
 | d y=>exact fI.keep e ⟨jj _,λb _ g=>⟨h b g,λ_=>rfl⟩⟩
 | c f j =>
  cases j with
  | nil=>exact⟨λn i=>(by cases i),e.2⟩
  | cons k l=>simp[Hp.holds,Hp.bk]at a
 | _=>simp[Hp.holds,Hp.bk,Hp.lk]at a
def Dc.comp[pq]{σ1:St}{β1 β2:Nat->Option Nat}{m w':cg}{i:br}{j l:List Loc}(c:Dc σL W0 ok0 β w W0 ok0 β1 w j)(a:Dc σ1 W0 ok0 β1 w m i β2 w' l)(r:∀x,(get σL x).isSome->(get σ1 x).isSome):Dc σL W0 ok0 β w m i β2 w' (l++j) where
 gr:=a.gr
 new:=a.new
 inj:=a.inj
 sub k b hk h:=a.sub k b hk (c.sub k b hk h)
 fresh k b h:=by
  rcases a.fresh k b h with h|h
  .exact (c.fresh k b h).imp id (λh=>ki.2 (.inr h))
  .exact .inr (ki.2 (.inl h))
 keep:=⟨xo c.keep.1 a.keep.1,λb p s=>by have⟨t,u⟩:=c.keep.2 b p s;have⟨v,y⟩:=a.keep.2 b p t;exact⟨v,λo=>(y o).trans (u o)⟩⟩
 own k b q hk h hq hn:=by have⟨d,e⟩:=c.own k b q hk h hq (λh=>hn (ki.2 (.inr h)));have⟨f,g⟩:=a.own k b q hk (c.sub k b hk h) (r _ hq) (λh=>hn (ki.2 (.inl h)));exact⟨f.trans d,g.trans e⟩
 nT k b hk h hn:=by have⟨d,e⟩:=c.nT k b hk h (λh=>hn (ki.2 (.inr h)));have⟨f,g⟩:=a.nT k b hk d (λh=>hn (ki.2 (.inl h)));exact⟨f,g.trans e⟩
 alive n hn b h:=by have⟨d,e⟩:=a.alive n (r _ hn) b h;have⟨f,g⟩:=c.alive n hn b d;exact⟨f,e.trans g⟩
 nk:=a.nk
 qQ:=a.qQ
def lU.sub[pq]{β':Nat->Option Nat}(h:lU Wb okb W0 ok0 β σ)(c:∀k b,β' k=some b->β k=some b):lU Wb okb W0 ok0 β' σ:=by refine⟨λe=>⟨(h.1 e).1,λk b a=>(h.1 e).2 k b (c k b a)⟩,λv e=>?_⟩;have⟨i,d,a,f,g⟩:=h.2 v e;refine⟨i,d,a,f,λk q m=>?_⟩;have⟨j,n,o,p⟩:=g k q m;exact⟨j,n,o,λe b l=>p e b (c k b l)⟩
def Comes.Y2[pq](f:Inv Wb okb W0 ok0 ds nt β a w σL){ks:List Nat}(l:∀k∈ks,2000000<=k){res:Option AV}{mem:List (Loc×AV)}{rd D:List Loc}
 (h:∀β':Nat->Option Nat,(∀k b,β' k=some b->β k=some b)->(∀b,okB W0.heap.size ok0 β b->okB W0.heap.size ok0 β' b)->(∀k∈ks,∀b,β k=some b->okB W0.heap.size ok0 β' b)->Inv Wb okb W0 ok0 ds nt β' a w (dH ks++σL)->(∀k b,β k=some b->k ∉ ks->β' k=some b)->Comes P Wb okb W0 ok0 β' a w (dH ks++σL) o ⟨res,mem,rd⟩):Comes P Wb okb W0 ok0 β a w σL o ⟨res,mem++dH ks,D⟩:=by
 let β':Nat->Option Nat:=λk=>if k∈ks then none else β k
 have β1:∀k b,β' k=some b->β k=some b/\k ∉ ks:=λk b h=>by
  simp only[β']at h;split at h
  .cases h
  .rename_i hk;exact⟨h,hk⟩
 have β2:∀k b,β k=some b->k ∉ ks->β' k=some b:=λk b h hk=>by simp only[β'];rw[if_neg hk];exact h
 have s:∀b,okB W0.heap.size ok0 β b->okB W0.heap.size ok0 β' b:=λb t=>t.imp id (λh=>⟨h.1,λk e=>h.2 k (β1 k b e).1⟩);have E:(dH ks).map (λ(x:Loc×AV)=>x.1)=ks.map λk=>(k+1,0):=by simp[dH]
 have p:∀k,k∈ks->(k+1,0)∈(dH ks).map (λ(x:Loc×AV)=>x.1):=λk hk=>by rw[E];exact kB.2 ⟨k,hk,rfl⟩
 have F:Dc σL W0 ok0 β w W0 ok0 β' w ((dH ks).map (λ(x:Loc×AV)=>x.1)):={
  gr:=f.gr
  new:=λk b h=>f.new k b (β1 k b h).1
  inj:=λk j b h L=>f.inj k j b (β1 k b h).1 (β1 j b L).1
  sub:=λk b hk h=>β2 k b h (λm=>by have:=l k m;omega)
  fresh:=λk b h=>.inl (β1 k b h).1
  keep:=⟨jj _,λb _ h=>⟨s b h,λ_=>rfl⟩⟩
  own:=λ_ _ _ _ _ _ _=>⟨rfl,rfl⟩
  nT:=λk b _ h q=>⟨β2 k b h (λm=>q (p k m)),rfl⟩
  alive:=λn _ b h=>⟨(β1 n b h).1,rfl⟩
  nk:=by simp only[β'];split;rfl;exact f.nk
  qQ:=f.qQ }
 have i:∀x∈(dH ks).map (λ(x:Loc×AV)=>x.1),x.1≠1000001:=λx c=>by rw[E]at c;obtain⟨k,hk,rfl⟩:=kB.1 c;have:=l k hk;show k+1≠1000001;omega
 have dead:∀x v,(x,v)∈dH ks->v=AV.dead/\∃k,x=(k+1,0):=λx v c=>by simp only[dH,kB,ju]at c;obtain⟨k,_,rfl,rfl⟩:=c;exact⟨rfl,k,rfl⟩
 have y:Inv Wb okb W0 ok0 ds nt β' a w (dH ks++σL):=f.next F (wr:=dH ks) (d:=none) (u:=undef) (λx c=>c) (λx e=>by cases e) (λx v c _=>by obtain⟨rfl,k,rfl⟩:=dead x v c;trivial) ((f.FK.sub (λk b h=>(β1 k b h).1)).skip i) (λx v c n q=>by obtain⟨rfl,_⟩:=dead x v c;cases q)
 intro K Q hK;refine h β' (λk b h=>(β1 k b h).1) s (λk hk b t=>?_) y β2 K Q (λG C β2 w' val O M m N A z=>hK G C β2 w' val ?_ M (λx v c i H=>?_) ?_ ?_ (λx v c=>?_))
 .have r:∀j,β' j≠some b:=λj e=>by have⟨I,J⟩:=β1 j b e;exact J (f.inj j k b I t ▸ hk)
  rcases (f.new k b t).1 with B|B
  .exact .inr ⟨nT B,r⟩
  .rcases jf5 b W0.heap.size with g|g
   .exact .inl ⟨g,B⟩
   .exact .inr ⟨.inl g,r⟩
 .have:=F.comp O (λk hk=>get_mono _ _ _ (.inl hk));simpa only[qa0]using this
 .rcases ki.1 c with c|c
  .exact m x v c i H
  .obtain⟨rfl,k,rfl⟩:=dead x v c;trivial
 .simpa only[qa3]using N
 .simpa only[qa3]using A
 .rcases ki.1 c with c|c
  .simpa only[qa3]using z x v c
  .obtain⟨rfl,_⟩:=dead x v c;intro n q;cases q
def nC{H:Hp} : ∀{xs:List Operand}{q:List A1×List Nat×List (Bool×Prop)},vW H σ xs=some q->∀k∈q.2.1,∃v,get σ (k+1,0)=some v
 | [],q,h,k,hk=>by simp only[vW,qq]at h;subst h;cases hk
 | x::xs,q,h,k,hk=>by
  simp only[vW]at h;split at h<;>try (cases h;done)
  rename_i A e;split at h
  .obtain⟨t,c,rfl⟩:=qS.1 h;exact nC c k hk
  split at h<;>try (cases h;done)
  rename_i B t a c;simp only[qq]at h;subst h;rcases ki.1 hk with hk|hk
  .have b:∀{x y:X},mX σ x=some y->k∈x.keys->∃v,get σ (k+1,0)=some v:=λ{x y} h hk=>by
    cases x with
    | g s n l =>
     simp only[X.keys,qv]at hk;subst hk;simp only[mX]at h;split at h<;>try (cases h;done)
     rename_i m;exact⟨_,m⟩
    | q s o=>cases h
    | _=>cases hk
   cases A with
   | one x =>
    simp only[wC,qS]at a;have⟨y,a,_⟩:=a;exact b a hk
   | agg C =>
    simp only[wC,qS]at a;have⟨zs,a,_⟩:=a;have⟨w,j⟩:=sealXs_get a;simp only[A1.keys,qb2]at hk;have⟨y,r,hk⟩:=hk;have⟨i,f⟩:=qh3 r;have p:=(qT.1 f).1;have⟨z,d,u⟩:=j i _ (qu od);rw[f]at d;simp only[qq]at d;subst d;exact b u hk
  .exact nC c k hk
def iZ.oG{ok ok':br}{v:AV}{x:cm}{w':cg}(k:zH ok w' ok' w')(nk:v.keys=[])(h:iZ (λ_=>none) ok w' v x):iZ β ok' w' v x :=
 iZ.kL k (λ_ _ _ e=>by cases e) v x (λn a=>by rw[nk]at a;cases a) h
def dU.app{α:Type}{R:α->cm->Prop} : ∀{xs ys:List α}{vs us:bo},dU R xs vs->dU R ys us->dU R (xs++ys) (vs++us)
 | [],_,[],_,_,h=>h
 | x::xs,_,v::vs,_,⟨a,b⟩,h=>⟨a,dU.app b h⟩
def Hp.Wv{H:Hp}{e:Nat×List X}(h:e∈H.bx):H.bk e.1:=qg0.2 ⟨e,h,oe⟩
def Hp.PV{H:Hp}{e:Nat×AV}(h:e∈H.ls):H.lk e.1:=qg0.2 ⟨e,h,oe⟩
def Hp.Gp{H:Hp}{k:Nat}(h:H.bk k):∃xs,(k,xs)∈H.bx:=by
 have⟨⟨c,xs⟩,a,b⟩:=qg0.1 h;obtain rfl:c=k:=by simpa using b
 exact⟨xs,a⟩
def Hp.Ko{H:Hp}{k:Nat}(h:H.lk k):∃v,(k,v)∈H.ls:=by
 have⟨⟨c,d⟩,a,b⟩:=qg0.1 h;obtain rfl:c=k:=by simpa using b
 exact⟨d,a⟩
structure Mk (H:Hp):Prop where
 b:∀k xs,(k,xs)∈H.bx->k<1000000/\0<xs.length/\(∀x∈xs,H.holds x/\x.plain)
 l:∀k v,(k,v)∈H.ls->2000000<=k/\∃t n es,v =.kv t n es
def Hp.is{H:Hp}(h:H.fine):Mk H:=by
 simp only[Hp.fine,qt,kd,jt]at h;refine⟨λk g c=>?_,λk v c=>?_⟩
 .have⟨⟨⟨a,b⟩,e⟩,f⟩:=h.1 _ c;exact⟨e,f,λx d=>⟨a x d,b x d⟩⟩
 .have⟨a,b⟩:=h.2 _ c;refine⟨b,?_⟩;cases v<;>first|exact⟨_,_,_,rfl⟩|cases a
def Mk.bk{H:Hp}(h:Mk H){k:Nat}(e:H.bk k):k<1000000:=by have⟨c,a⟩:=Hp.Gp e;exact (h.b k c a).1
def Mk.lk{H:Hp}(h:Mk H){k:Nat}(e:H.lk k):2000000<=k:=by have⟨b,a⟩:=Hp.Ko e;exact (h.l k b a).1
def Mk.keys{H:Hp}{x:X}(h:H.holds x){n:Nat}(hn:n∈x.keys):H.lk n:=by
 cases x with
 | g k _ _=>simp only[X.keys,qv]at hn;subst hn;exact h
 | q k _=>simp only[X.keys,qv]at hn;subst hn;exact h
 | _=>cases hn
def Hp.II{H:Hp}{x:Loc}{v:AV}(h:(x,v)∈H.st):(∃k xs q y,(k,xs)∈H.bx/\x=(k+1,q)/\xs[q]?=some y/\v =.of (.one y))\/∃k,(k,v)∈H.ls/\x=(k+1,0):=by
 rcases ki.1 h with h|h
 .have⟨⟨k,xs⟩,b,a⟩:=qb2.1 h;have⟨j,y,c,d,e⟩:=oD _ _ _ _ a;exact .inl ⟨k,xs,j,y,b,by rw[c,qb1],d,e⟩
 .have⟨⟨k,u⟩,b,a⟩:=kB.1 h;simp only[ju]at a;obtain⟨rfl,rfl⟩:=a;exact .inr ⟨k,b,rfl⟩
def Hp.Y3{H:Hp}{k q:Nat}{xs:List X}(h:(k,xs)∈H.bx)(c:q<xs.length):(k+1,q)∈H.st.map (λ(x:Loc×AV)=>x.1):=by simp only[Hp.st,qa0,ki];left;have:=rF (k:=k) xs 0 q c;rw[qb1]at this;have⟨y,a,b⟩:=kB.1 this;exact kB.2 ⟨y,qb2.2 ⟨_,h,a⟩,b⟩
def Hp.uN{H:Hp}{k:Nat}(h:H.lk k):(k+1,0)∈H.st.map (λ(x:Loc×AV)=>x.1):=by have⟨v,a⟩:=Hp.Ko h;simp only[Hp.st,qa0,ki];right;exact kB.2 ⟨_,kB.2 ⟨_,a,rfl⟩,rfl⟩
def ab9[pq](hI:Inv Wb okb W0 ok0 ds nt β a w σL){c:Call}{f:FuncId}{y:Operand}{cs:List Nat}{s:Sp}{C2:List Sp}(ho:o.op =.call c)(hf:c.callee =.value y)(ck:∀k∈cs,(∃b,β k=some b)/\k<1000000)(h:frO s C2 σ f cs c.args.toList=some (u,C',ob))(aC:s.no=false)(H:CK β (okB W0.heap.size ok0 β) a w σ o)(hS:Holds P s)
 (hrun:s.f=f->(execOp a.eval o).run P w =.ok (.enter f (c.args.toList.map a.eval++cs.map λk=>Value.po ((β k).getD 0)).toArray) w) (hob:∀p∈ob,p.2) (hag:∀x∈u.rd,get σL x=get σ x) (hag2:∀x∈u.mem.map (·.1),get σL x=get σ x):Comes P Wb okb W0 ok0 β a w σL o u:=by
 unfold frO at h;split at h<;>try (cases h;done)
 rename_i az kz cA O;split at h<;>try (cases h;done)
 rename_i hc;have⟨⟨⟨hs,cJ,cE⟩,cx,cb,cc,cj⟩,ba,ct,ah,cr⟩:=hc;simp only[qq,ju]at h;obtain⟨rfl,rfl,rfl⟩:=h;generalize ar:s.bl.pre=j at *;generalize ax:s.bl.post=V at *;have F0:=Hp.is cb;have X:=Hp.is cc;have hN:=hob (false,_) (je7 ..);simp only[Sp.need,ar,ju]at hN;have⟨ea,eb,el⟩:=hN;have ak:∀p∈cA,p.2:=λp hp=>hob p (by simp[hp]);have an:∀x∈c.args.toList,∀v,tC σ x=some v->iZ β (okB W0.heap.size ok0 β) w v (a.eval x):=λx L=>H x (by simp only[ho,Op.operands,Call.operands,hf,Array.toList_append,ki];exact .inr L);have ae:∀k∈kz,get σL (k+1,0)=get σ (k+1,0):=λk hk=>hag _ (by simp only[kl,ki];exact .inr (.inr (.inr (kB.2 ⟨k,hk,rfl⟩))));have ad:∀k∈kz,2000000<=k:=(lH hI (β':=β) (okS:=λ_=>True) (λ_ _=>trivial) (λx v _ hr=>jm.kL ⟨jj _,λ_ _ _=>⟨trivial,λ_=>rfl⟩⟩ (λ_ _ _ e=>e) x v (λn _ b e=>⟨e,rfl⟩) hr) _ _ _ _ O ak ae (λ_ _ _ _=>trivial) an).2;have ca:∀{k:Nat},V.bk k=j.bk k:=λ{k}=>by
  have : V.bx.map (λe=>e.1)=j.bx.map (λe=>e.1):=by have:=congrArg (List.map Prod.fst) ba;simpa only[jg0,je0]using this
  have e:∀H:Hp,H.bk k=(H.bx.map (λe=>e.1)).any (· == k):=λH=>by simp[Hp.bk,List.any_map,je0]
  rw[e,e,this]
 have bb:∀k∈kz,j.lk k=false:=λk hk=>by simpa using kd.1 cr k hk
 have Y:∀k,V.lk k->get σL (k+1,0)=none:=λk hk=>by rw[hag2 _ (by simp only[qa0,ki];exact .inl (.inl (Hp.uN hk)))];have⟨v,S⟩:=Hp.Ko hk;have:=kd.1 ah _ S;exact qa6.1 this
 refine Comes.Y2 hI ad (rd:=[]) (λβ1 hβ bh bm g aO=>?_);have G:∀x:Loc,(∀k∈kz,x≠(k+1,0))->get (dH kz++σL) x=get σL x:=λx L=>get_skip _ _ _ (λS=>by simp only[dH,jg0,kB]at S;have⟨k,hk,U⟩:=S;exact L k hk U.symm)
 have bc:get σL (1000001,0)=none:=(hag _ oe).trans (qa6.1 cx);have aj:get (dH kz++σL) (1000001,0)=none:=by rw[G _ (λk hk U=>by have:=ad k hk;simp only[ju]at U;omega)];exact bc
 have⟨cf,A⟩:=g.FK.1 aj;have cv:∀k,V.lk k->β1 k=none:=λk hk=>by
  cases e:β1 k with
  | none=>rfl
  | some b =>
   have d:=g.dom k b e;rw[G _ (λI D U=>?_),Y k hk]at d
   .cases d
   .have⟨v,hv⟩:=nC O I D;rw[<-ae I D,<-U,Y k hk]at hv;cases hv
 -- what the call sees
 let βf:Nat->Option Nat:=λk=>if j.bk k||j.lk k then β1 k else none
 have W:∀k b,βf k=some b->β1 k=some b/\(j.bk k||j.lk k):=λk b e=>by
  simp only[βf]at e;split at e
  .rename_i h;exact⟨e,h⟩
  .cases e
 have f2:∀k b,β1 k=some b->(j.bk k||j.lk k)->βf k=some b:=λk b e h=>by simp only[βf];rw[if_pos h];exact e
 have cM:∀k,j.bk k->j.lk k=false:=λk h=>by
  cases e:j.lk k with
  | false=>rfl
  | true=>have:=F0.bk h;have:=F0.lk e;omega
 have cy:∀x v,j.holds x->jm β1 (okB W0.heap.size ok0 β1) w x v->jm βf (okB W0.heap.size ok0 β1) w x v:=λx v=>jm.part ⟨jj _,λ_ _ h=>⟨h,λ_=>rfl⟩⟩ (λn F _ b e=>f2 n b e (by simp[F])) (λn _ b e=>⟨(W n b e).1,rfl⟩) x v;have hp:∀x v,j.holds x->jm β (okB W0.heap.size ok0 β) w x v->jm βf (okB W0.heap.size ok0 β1) w x v:=λx v=>jm.part ⟨jj _,λb _ h=>⟨bh b h,λ_=>rfl⟩⟩ (λn F hl b e=>f2 n b (aO n b e (λS=>by have:=ad n S;omega)) (by simp[F])) (λn _ b e=>⟨hβ n b (W n b e).1,rfl⟩) x v;have hA:=(lH hI bh hp _ _ _ _ O ak ae bm an).1;have hA2:dU (gm βf (okB W0.heap.size ok0 β1) w) s.args (c.args.toList.map a.eval++cs.map λk=>Value.po ((β k).getD 0)):=by
  rw[<-ea];refine dU.app hA (dU.of oe (λi x v d z=>?_));simp only[qb0,qS]at d z;obtain⟨k,hk,rfl⟩:=d;obtain⟨I,D,rfl⟩:=z;obtain rfl:k=I:=by rw[hk]at D;simpa using D
  have S:=ka hk;have⟨⟨b,e⟩,hl⟩:=ck k S;exact⟨b,⟨f2 k b (aO k b e (λS=>by have:=ad k S;omega)) (by rw[kd.1 cj k S];rfl),hl⟩,by rw[e];rfl⟩
 have aa:∀k T,(k,T)∈j.bx->∀q x,T[q]?=some x->∃b u,(β1 k=some b/\k<1000000)/\w.cell? ⟨b,q,none⟩=some u/\w.frozen? ⟨b,q,none⟩=false/\jm β1 (okB W0.heap.size ok0 β1) w x u:=λk T S q x hq=>by
  have N:=(jg1.1 eb) (k,T) S;simp only at N;have U:=(mJ _ _ _ N).2 q x hq;rw[qb1]at U;have R:q<T.length:=(qT.1 hq).1;have e3:get σL (k+1,q)=get σ (k+1,q):=hag _ (by simp only[kl,ki,qb2];refine .inr (.inl ⟨(k,T),S,?_⟩);have:=DU (k:=k) T.length 0 q R;rwa [qb1]at this)
  have cG:=(F0.b k T S).1;have e4:=(G (k+1,q) (λI D e=>by have:=ad I D;simp only[ju]at e;omega)).trans (e3.trans U);have⟨b,u,y,d,z,E,h4,h5⟩:=g.rep (k+1,q) _ (λe=>by have e:k+1=1000001:=e;omega) e4;simp only[AV.of.injEq,A1.one.injEq]at z;subst z;exact⟨b,u,d,E,h4,h5⟩
 have cd:EE βf (okB W0.heap.size ok0 β1) w j:=by
  refine⟨λe he=>?_,λe he t n es ee=>?_,λk b e=>?_,λk I b e e'=>g.inj k I b (W k b e).1 (W I b e').1⟩
  .have⟨k,T⟩:=e;have⟨_,bn,L⟩:=F0.b k T he;have⟨b,_,J,_⟩:=aa k T he 0 _ (qu bn);refine⟨b,f2 k b J.1 (by rw[Hp.Wv he];rfl),λq x hq=>?_⟩;have⟨b',u,ch,E,h4,h5⟩:=aa k T he q x hq;obtain rfl:b'=b:=by have:=ch.1;rw[J.1]at this;simpa using this.symm
   exact⟨u,E,h4,cy x u (L x (ka hq)).1 h5⟩
  .have⟨k,v⟩:=e;simp only at ee;subst ee;have N:=(jg1.1 el) _ he;simp only at N;have e3:get σL (k+1,0)=get σ (k+1,0):=hag _ (by
    simp only[kl,ki];exact .inr (.inr (.inl (kB.2 ⟨k,kB.2 ⟨_,he,rfl⟩,rfl⟩))))
   have cF:=(F0.l k _ he).1;have e4:=(G (k+1,0) (λI D e=>by have:=bb I D;simp only[ju,Nat.add_right_cancel_iff,and_true]at e;rw[<-e,Hp.PV he]at this;cases this)).trans (e3.trans N)
   have hL:=(g.rep (k+1,0) _ (λe=>by have e:k+1=1000001:=e;omega) e4).2;exact hL.keep ⟨jj _,λ_ _ h=>⟨h,λ_=>rfl⟩⟩ (λb _ e=>⟨f2 k b e (by rw[Hp.PV he,Bool.or_true]),rfl⟩)
  .have⟨N,U⟩:=W k b e;refine⟨by simpa using U,(g.new k b N).2,?_⟩;rintro (d|d)
   .exact Dr g.qQ (A k b N) d
   .exact d.2 k N
 intro K Q hK;unfold Oper.wp;rw[hrun hs,Oper.upon_enter];have ab:=hS.bH aC βf _ w _ (by rw[ar];exact cd) hA2;rw[hs,ar,ax]at ab;refine ab.mono ?_;rintro N w' ⟨β2,hW,C,v,rfl,hv⟩
 let βn:Nat->Option Nat:=λk=>if j.bk k||j.lk k||V.lk k then β2 k else β1 k
 have d2:∀k b,β2 k=some b->(j.bk k||j.lk k||V.lk k):=λk b e=>by
  rcases (C.dom k b e).1 with h|h
  .rw[<-ca,h];rfl
  .rw[h,Bool.or_true]
 have n2:∀k b,β2 k=some b->βn k=some b:=λk b e=>by simp only[βn];rw[if_pos (d2 k b e)];exact e
 have n1:∀k b,βn k=some b->β2 k=some b\/(β1 k=some b/\j.bk k=false/\j.lk k=false/\V.lk k=false):=λk b e=>by
  simp only[βn]at e;split at e
  .exact .inl e
  .rename_i h;simp only[qe2,not_or,Bool.not_eq_true]at h;exact .inr ⟨e,h.1.1,h.1.2,h.2⟩
 have s2:∀k b,β2 k=some b->w.heap.size<=b\/∃r,β1 r=some b/\(j.bk r||j.lk r)/\(2000000<=k->2000000<=r):=λk b e=>(hW.src k b e).imp id λ⟨r,d,z⟩=>⟨r,(W r b d).1,(W r b d).2,z⟩;have R:∀k b,β1 k=some b->b<w.heap.size:=λk b e=>(g.new k b e).2
 -- what is not handed on stays
 have M:∀b,b<w.heap.size->(∀k,βf k≠some b)->w'.heap[b]?=w.heap[b]?:=λb d z=>hW.gr.block b d (λ⟨k,e⟩=>z k e);have B:∀k b,β1 k=some b->j.bk k=false->j.lk k=false->∀r,βf r≠some b:=λk b e d z r e0=>by have⟨N,U⟩:=W r b e0;obtain rfl:=g.inj r k b N e;rw[d,z]at U;cases U
 have aq:∀k b,βn k=some b->ownB W0.heap.size k b:=λk b e=>by
  rcases n1 k b e with e|⟨e,_⟩
  .rcases (C.dom k b e).1 with h|h
   .have hk:=X.bk h;exact A k b (W k b ((hW.low k b hk).1 e)).1
   .have hk:=X.lk h;rcases s2 k b e with E|⟨r,E,_,h4⟩
    .exact .inl ⟨xo g.gr.size E,.inr od⟩
    .exact abB (A r b E) (h4 hk) hk
  .exact A k b e
 have Z:∀b,b<w'.heap.size->NJ βf (okB W0.heap.size ok0 β1) w β2 b->okB W0.heap.size ok0 βn b:=λb _ J=>by
  rcases J with⟨d,z⟩|⟨d,z⟩
  .have aC:∀k,βn k≠some b:=λk e=>by
    have bq:∀r,β1 r≠some b:=λr e0=>by
     rcases z with z|z
     .exact Dr g.qQ (A r b e0) z
     .exact z.2 r e0
    rcases n1 k b e with e|⟨e,_⟩
    .rcases s2 k b e with E|⟨r,E,_⟩
     .omega
     .exact bq r E
    .exact bq k e
   exact z.imp id (λh=>⟨h.1,aC⟩)
  .refine .inr ⟨?_,λk e=>?_⟩
   .rcases d with d|⟨k,d⟩
    .exact .inl (xo g.gr.size d)
    .exact nT (A k b (W k b d).1)
   .rcases n1 k b e with e|⟨e,N,U,_⟩
    .exact z k e
    .rcases d with d|⟨r,d⟩
     .have:=R k b e;omega
     .exact B k b e N U r d
 have cz:∀x v,V.holds x->jm β2 (NJ βf (okB W0.heap.size ok0 β1) w β2) w' x v->jm βn (okB W0.heap.size ok0 βn) w' x v:=λx v=>jm.part ⟨jj _,λb J h=>⟨Z b J h,λ_=>rfl⟩⟩ (λn _ _ b e=>n2 n b e) (λn F b e=>⟨by simpa[βn,F]using e,rfl⟩) x v;have m:Dc (dH kz++σL) W0 ok0 β1 w W0 ok0 βn w' ((V.st++dH (j.ls.map (·.1))).map (λ(x:Loc×AV)=>x.1)):={
  gr:=⟨hW.gr.os.trans g.gr.os,hW.gr.tape.trans g.gr.tape,hW.gr.output.trans g.gr.output,xo g.gr.size hW.gr.size,λi hi hr=>(M i (kh hi g.gr.size) (λk e=>by
   rcases nT (A k i (W k i e).1)with h|h
   .omega
   .exact hr h)).trans (g.gr.block i hi hr)⟩
  new:=λk b e=>⟨.inl (aq k b e),by
   rcases n1 k b e with e|⟨e,_⟩
   .exact (C.dom k b e).2.1
   .exact kh (R k b e) hW.gr.size⟩
  inj:=λk I b e e'=>by
   rcases n1 k b e with e|⟨e,q1,q2,_⟩<;>rcases n1 I b e' with e'|⟨e',cC,cD,_⟩
   .exact C.inj k I b e e'
   .exfalso;rcases s2 k b e with E|⟨r,E,h4,_⟩
    .have:=R I b e';omega
    .exact B I b e' cC cD r (f2 r b E h4)
   .exfalso;rcases s2 I b e' with E|⟨r,E,h4,_⟩
    .have:=R k b e;omega
    .exact B k b e q1 q2 r (f2 r b E h4)
   .exact g.inj k I b e e'
  sub:=λk b hk e=>by
   cases J:j.bk k with
   | true=>exact n2 k b ((hW.low k b hk).2 (f2 k b e (by rw[J];rfl)))
   | false =>
    have d:j.lk k=false:=by cases e:j.lk k with|false=>rfl|true=>have:=F0.lk e;omega
    have z:V.lk k=false:=by cases e:V.lk k with|false=>rfl|true=>have:=X.lk e;omega
    simp only[βn,J,d,z,Bool.or_self,qd3,if_false];exact e
  fresh:=λk b e=>by
   rcases n1 k b e with e|⟨e,_⟩
   .rcases (C.dom k b e).1 with h|h
    .exact .inl (W k b ((hW.low k b (X.bk h)).1 e)).1
    .exact .inr (by simp only[qa0,ki];exact .inl (Hp.uN h))
   .exact .inl e
  keep:=⟨hW.gr.size,λb J hk=>by
   have cw:∀k,βf k≠some b:=λk e=>by
    have e:=(W k b e).1;rcases hk with hk|hk
    .exact Dr g.qQ (A k b e) hk
    .exact hk.2 k e
   exact⟨Z b (kh J hW.gr.size) (.inl ⟨J,hk⟩),λq=>ke (M b J cw)⟩⟩
  own:=λk b q hk e hq F=>by
   cases J:j.bk k with
   | true =>
    refine (hW.rest k b hk (f2 k b e (by rw[J];rfl))).2 q (λe0 cl ek=>Nat.not_lt.1 λcI=>F ?_);have : (e0.1,e0.2.length)∈V.bx.map λe=>(e.1,e.2.length):=by rw[ba];exact kB.2 ⟨e0,cl,rfl⟩
    have⟨⟨k1,cN⟩,d,z⟩:=kB.1 this;simp only[ju]at z;obtain⟨rfl,z⟩:=z;rw[<-ek];simp only[qa0,ki];exact .inl (Hp.Y3 d od)
   | false =>
    have d:j.lk k=false:=by cases e:j.lk k with|false=>rfl|true=>have:=F0.lk e;omega
    have:=M b (R k b e) (B k b e J d);exact⟨ke this,qh4 this⟩
  nT:=λk b hk e F=>by
   have h0:j.bk k=false:=by cases e:j.bk k with|false=>rfl|true=>have:=F0.bk e;omega
   have d:j.lk k=false:=by
    cases e:j.lk k with
    | false=>rfl
    | true =>
     have⟨v,S⟩:=Hp.Ko e;exact absurd (by simp only[qa0,ki];right;simp only[dH,jg0,kB];exact⟨_,S,rfl⟩) F
   have z:V.lk k=false:=by
    cases e:V.lk k with
    | false=>rfl
    | true=>exact absurd (by simp only[qa0,ki];exact .inl (Hp.uN e)) F
   exact⟨by simp only[βn,h0,d,z,Bool.or_self,qd3,if_false];exact e,M b (R k b e) (B k b e h0 d)⟩
  alive:=λn F b e=>by
   rcases n1 n b e with e|⟨e,q1,q2,_⟩
   .rcases (C.dom n b e).1 with h|h
    .have N:=(hW.low n b (X.bk h)).1 e;exact⟨(W n b N).1,(hW.rest n b (X.bk h) N).1⟩
    .exfalso;rw[G _ (λI D U=>?_),Y n h]at F
     .cases F
     .have⟨v,hv⟩:=nC O I D;rw[<-ae I D,<-U,Y n h]at hv;cases hv
   .exact⟨e,ko (M b (R n b e) (B n b e q1 q2))⟩
  nk:=by
   have h0:j.bk 1000000=false:=by cases e:j.bk 1000000 with|false=>rfl|true=>have:=F0.bk e;omega
   have d:j.lk 1000000=false:=by cases e:j.lk 1000000 with|false=>rfl|true=>have:=F0.lk e;omega
   have z:V.lk 1000000=false:=by cases e:V.lk 1000000 with|false=>rfl|true=>have:=X.lk e;omega
   simp only[βn,h0,d,z,Bool.or_self,qd3,if_false];exact g.nk
  qQ:=g.hnd λk b hk e=>by
   by_cases L:∃r,βf r=some b
   .have⟨r,e0⟩:=L;have⟨N,U⟩:=W r b e0;rcases A r b N with⟨E,_⟩|⟨k3,E,h4,h5⟩
    .have:=(g.qQ.1 b ⟨k,e⟩).2;omega
    .obtain rfl:=g.qQ.2.2 k k3 b e E;have cp:r<1000000:=qb4 λh=>by have:=h5 od;omega
     obtain⟨h6,rfl⟩:=h4 cp;have⟨r1,r2⟩:=hW.rest k b hk e0;refine⟨r1,λq hq=>r2 q (λe3 cn ek=>?_)⟩;have:=kd.1 ct _ cn;simp only[jt]at this;rw[ek]at this;omega
   .exact QP (M b (g.Zj ⟨k,e⟩) (λr e0=>L ⟨r,e0⟩)) }
 refine hK W0 ok0 βn w' v m ?_ (λx v L cL a'=>?_) ⟨λ_=>⟨cf,aq⟩,λv hv=>?_⟩ (λn F=>?_) (λx v L n F=>?_)
 .refine iZ.kL ⟨jj _,λb J h=>⟨Z b J h,λ_=>rfl⟩⟩ (λx b _ e=>n2 x b e) _ _ (λn F b e=>⟨?_,rfl⟩) hv;have:=kd.1 hS.OT.2 n F;rw[ax]at this;simpa[βn,this]using e
 .rcases ki.1 L with L|L
  .rcases Hp.II L with⟨k,T,q,y,d,rfl,E,rfl⟩|⟨k,d,rfl⟩
   .have⟨b,J,hc⟩:=C.bx _ d;have⟨u,c1,c2,c3⟩:=hc q y E;exact⟨b,u,y,⟨n2 k b J,(X.b k T d).1⟩,rfl,c1,c2,cz y u ((X.b k T d).2.2 y (ka E)).1 c3⟩
   .obtain⟨_,t,n,es,rfl⟩:=X.l k _ d;exact⟨rfl,(C.ls _ d t n es rfl).keep ⟨jj _,λb J h=>⟨Z b J h,λ_=>rfl⟩⟩ (λb _ e=>⟨n2 k b e,rfl⟩)⟩
  .simp only[dH,kB,ju]at L;obtain⟨k,_,rfl,rfl⟩:=L;trivial
 .exfalso;rw[get_skip _ _ _ (λS=>?_),aj]at hv
  .cases hv
  .have⟨⟨y1,y2⟩,hy,ey⟩:=kB.1 S;simp only at ey;subst ey;rcases ki.1 hy with hy|hy
   .rcases Hp.II hy with⟨k,T,q,y,d,e,_⟩|⟨k,d,e⟩
    .have:=(X.b k T d).1;simp only[ju]at e;omega
    .have:=(X.l k _ d).1;simp only[ju]at e;omega
   .simp only[dH,kB,ju]at hy;obtain⟨k,⟨⟨I,v'⟩,d,rfl⟩,e,_⟩:=hy;have:=(F0.l I _ d).1;simp only[ju]at e;omega
 .have:=kd.1 hS.OT.2 n F;rw[ax]at this;exact get_mono _ _ _ (.inr (by simp only[qa0,ki];exact .inl (Hp.uN this)))
 .rcases ki.1 L with L|L
  .rcases Hp.II L with⟨k,T,q,y,d,rfl,E,rfl⟩|⟨k,d,rfl⟩
   .have F:n∈y.keys:=F;have:=Mk.keys ((X.b k T d).2.2 y (ka E)).1 F;exact get_mono _ _ _ (.inr (by simp only[qa0,ki];exact .inl (Hp.uN this)))
   .obtain⟨_,t,n,es,rfl⟩:=X.l k _ d;cases F
  .simp only[dH,kB,ju]at L;obtain⟨k,_,rfl,rfl⟩:=L;cases F
def c_call[pq](hI:Inv Wb okb W0 ok0 ds nt β a w σL){c:Call}{f:FuncId}{y:Operand}(ho:o.op =.call c)(hf:c.callee =.value y){cs:List Nat}(hy:(tC σ y).bind fnO=some (f,cs))(h:Dk P T C σ o=some (u,C',ob))(H:CK β (okB W0.heap.size ok0 β) a w σ o)(hC:∀s∈C,Holds P s)(hob:∀p∈ob,p.2)(hag:∀x∈u.rd,get σL x=get σ x)(hag2:∀x∈u.mem.map (·.1),get σL x=get σ x) :
 Comes P Wb okb W0 ok0 β a w σL o u:=by
 have hev:a.eval y =.func (.func f) #[] (cs.map λk=>Value.po ((β k).getD 0)).toArray/\∀k∈cs,(∃b,β k=some b)/\k<1000000:=by
  have⟨v,e,hv⟩:=qf1.1 hy;have hr:=H y (by simp[ho,Op.operands,Call.operands,hf]) _ e;unfold fnO at hv;split at hv<;>try (cases hv;done)
  .split at hv<;>try (cases hv;done)
   rename_i g z1 z2 hz;cases hv;obtain rfl:=jb0 hz.1;obtain rfl:=jb0 hz.2;exact⟨bW hr,oe⟩
  .cases hv;exact⟨hr.2,hr.1⟩
 simp only[Dk,ho,hf,hy]at h;split at h<;>try (cases h;done)
 rename_i s C2;have hS:=hC s oe;have hrun:s.f=f->(execOp a.eval o).run P w =.ok (.enter f (c.args.toList.map a.eval++cs.map λk=>Value.po ((β k).getD 0)).toArray) w:=λhs=>by have:=hS.OT.1 (c.args.toList.map a.eval++cs.map λk=>Value.po ((β k).getD 0)).toArray w;rw[hs]at this;simp only[execOp,ho,resolve,hf,hev.1,Deferred.ofValue,qc2,je3,Result.andThen,invoke];rw[show (c.args.map a.eval)=(c.args.toList.map a.eval).toArray by rw[<-Array.toList_map,Array.toArray_toList]];simpa using this
 split at h
 .rename_i hno;exact ab9 hI ho hf hev.2 h hno H hS hrun hob hag hag2
 rename_i hno;split at h<;>try (cases h;done)
 rename_i az ks obs hargs;have hbl:=hno;split at h<;>try (cases h;done)
 rename_i hsc;have⟨hs,hcs⟩:=hsc;obtain rfl:cs=[]:=by simpa using hcs
 replace hrun:=hrun hs;simp only[qh5,qc4]at hrun;have hops:∀x∈c.args.toList,∀v,tC σ x=some v->iZ β (okB W0.heap.size ok0 β) w v (a.eval x):=λx hx=>H x (by simp only[ho,Op.operands,Call.operands,hf,Array.toList_append,ki];exact .inr hx);have dl:∀k∈ks,(k+1,0)∈sV ks:=λk hk=>kB.2 ⟨k,hk,rfl⟩;split at h
 .rename_i hmv;split at h
  .rename_i hfr;split at h<;>try (cases h;done)
   rename_i el n es d hres hd;split at h<;>try (cases h;done)
   rename_i hc;have⟨hd9,hnew,hnv⟩:=hc;simp only[qq,ju]at h;obtain⟨rfl,rfl,rfl⟩:=h;have e:az=s.args:=by have:=hob (false,(az,[],[])=s.need) oe;exact congrArg (·.1) this
   have hA:=λ{okS:br} h1 h2=>lH hI (H:={}) (β':=λ_=>none) (okS:=okS) h1 (QC h1) _ _ _ _ hargs (λp hp=>hob p (by simp[hp])) (λk hk=>hag _ (by simp[dl k hk])) h2 hops;have hks:=(hA (okS:=λ_=>True) (λ_ _=>trivial) (λ_ _ _ _=>trivial)).2;have hnv':get σL (1000001,0)=none:=(hag _ oe).trans (qa6.1 hnv);have hlk:get σL (fC d+1,0)=none:=(hag2 _ oe).trans (qa6.1 hnew);refine Comes.Y2 hI hks (rd:=[]) (λβ' hβ hok hok2 hI1 _=>?_);have hr:=(hA hok hok2).1;rw[e]at hr;have hdn:∀x:Loc,(∀k∈ks,x≠(k+1,0))->get (dH ks++σL) x=get σL x:=λx hx=>get_skip _ _ _ (λhm=>by simp only[dH,jg0,kB]at hm;have⟨k,hk,e2⟩:=hm;exact hx k hk e2.symm)
   have hlk2:get (dH ks++σL) (fC d+1,0)=none:=by
    rw[hdn _ (λk hk e2=>?_)]
    .exact hlk
    .have e3:fC d=k:=by simpa using e2
     have h5:=hag _ (show (k+1,0)∈(1000001,0)::sV ks by simp[dl k hk]);rw[<-e3]at h5;have⟨v,hv⟩:=nC hargs k hk;rw[<-e3]at hv;rw[hv,hlk]at h5;cases h5
   have hnv2:get (dH ks++σL) (1000001,0)=none:=by rw[hdn _ (λk hk e2=>by have:=hks k hk;simp only[ju]at e2;omega)];exact hnv'
   intro K Q hK;unfold Oper.wp;rw[hrun,Oper.upon_enter];have hcall:=hS.adr hmv hfr hbl;rw[hres]at hcall;have hcall:=hcall _ w _ hr;rw[hs]at hcall;refine hcall.mono ?_;rintro e w' ⟨hg,v,rfl,hfr⟩;exact J5 hI1 hlk2 hnv2 hg hfr (λW1 ok1 β2 w2 val m hr hm hv hkr hkm=>hK W1 ok1 β2 w2 val m hr hm hv hkr hkm)
  .rename_i hfr;simp only[qq,ju]at h;obtain⟨rfl,rfl,rfl⟩:=h;have e:az=s.args:=by have:=hob (false,(az,[],[])=s.need) oe;exact congrArg (·.1) this
   have hA:=λ{okS:br} h1 h2=>lH hI (H:={}) (β':=λ_=>none) (okS:=okS) h1 (QC h1) _ _ _ _ hargs (λp hp=>hob p (by simp[hp])) (λk hk=>hag _ (dl k hk)) h2 hops;have hks:=(hA (okS:=λ_=>True) (λ_ _=>trivial) (λ_ _ _ _=>trivial)).2;refine Comes.Y2 hI hks (rd:=[]) (λβ' hβ hok hok2 hI1 _=>?_);have hr:=(hA hok hok2).1;rw[e]at hr;intro K Q hK;unfold Oper.wp;rw[hrun,Oper.upon_enter];have hcall:=hS.runN (by rw[hbl,hmv,show s.fr.b=false by simpa using hfr]) _ w _ hr;rw[hs]at hcall;refine hcall.mono ?_;rintro e w' ⟨hg,v,rfl,hv⟩;have m:=hI1.grow hg;refine hK W0 ok0 β' w' v m ?_ oe hI1.FK (λn hn=>by have hn:n∈s.res.keys:=hn;rw[hS.nk hno]at hn;cases hn) oe;refine iZ.oG ⟨jj _,λb hb hk=>⟨?_,λ_=>rfl⟩⟩ (hS.nk hno) hv;rcases hk with hk|hk
   .exact hk
   .refine .inr ⟨.inl (xo hI1.gr.size hk),λk e=>?_⟩;have:=(hI1.new k b e).2;omega
 .rename_i i j hmv;split at h<;>try (cases h;done)
  rename_i hij;simp only[qq,ju]at h;obtain⟨rfl,rfl,rfl⟩:=h;have e:az=s.args:=by have:=hob (false,(az,[],[])=s.need) oe;exact congrArg (·.1) this
  have hA:=λ{okS:br} h1 h2=>lH hI (H:={}) (β':=λ_=>none) (okS:=okS) h1 (QC h1) _ _ _ _ hargs (λp hp=>hob p (by simp[hp])) (λk hk=>hag _ (by simp[dl k hk])) h2 hops;have hks:=(hA (okS:=λ_=>True) (λ_ _=>trivial) (λ_ _ _ _=>trivial)).2;have ev:=hag (1000001,0) oe;refine Comes.Y2 hI hks (rd:=[]) (λβ' hβ hok hok2 hI1 _=>?_);have hr:=(hA hok hok2).1;rw[e]at hr;have ev2:get (dH ks++σL) (1000001,0)=get σ (1000001,0):=by
   rw[get_skip _ _ _ (λhm=>?_)]
   .exact ev
   .simp only[dH,jg0,kB]at hm;have⟨k,hk,e2⟩:=hm;have:=hks k hk;simp only[Function.comp,ju]at e2;omega
  have⟨v1,v2⟩:=hI1.FK
  cases hgv:get (dH ks++σL) (1000001,0)with
  | none=>rw[<-ev2,hgv]at hij;simp[verN]at hij
  | some vv =>
   obtain⟨i',rfl,g1,gf,g2⟩:=v2 vv hgv;have ei:i'=i:=by have:=hij.1;rw[<-ev2,hgv]at this;simpa[verN,Aj]using this
   subst ei;have hnb:∀b,¬bs b:=λb ⟨k,e⟩=>pq.no ⟨k,b,e⟩ _ _ _ g1;have hgr:cq W0 w none:=hI1.gr.grown hnb;intro K Q hK;unfold Oper.wp;rw[hrun,Oper.upon_enter];have hr2:=dU.mono (R':=gm (λ_=>none) (λb=>(b<W0.heap.size/\ok0 b)\/W0.heap.size<=b) w) (λx v hx=>gm.keep ⟨jj _,λb hb ho=>⟨ho.imp id (λh=>h.1.resolve_right (hnb b)),λ_=>rfl⟩⟩ (λ_ _ e=>e) _ _ hx) hr;have hcall:=hS.runM hmv hbl _ w _ (pq.grow _ _ _ _ g1 hgr) hr2;rw[hs]at hcall;refine hcall.mono ?_;rintro e w' ⟨hsz,ok1,G1,hk1,v,rfl,hv⟩;have hin:∀k b,β' k=some b->(b<W0.heap.size/\ok0 b)\/W0.heap.size<=b:=λk b hb=>by
    rcases jf5 b W0.heap.size with h|h
    .rcases (hI1.new k b hb).1 with h3|h3
     .rcases nT h3 with h3|h3
      .omega
      .exact absurd h3 (hnb b)
     .exact .inl ⟨h,h3⟩
    .exact .inr h
   have hblk:∀k b,β' k=some b->ok1 b/\w'.heap[b]?=w.heap[b]?:=λk b hb=>hk1 b (hI1.new k b hb).2 (hin k b hb);have m:Dc (dH ks++σL) W0 ok0 β' w w' ok1 β' w' ([((1000001,0),Aj j)].map (λ(x:Loc×AV)=>x.1)):={
    gr:=Gw.refl _ _
    new:=λk b hb=>⟨.inr (hblk k b hb).1,kh (hI1.new k b hb).2 hsz⟩
    inj:=hI1.inj
    sub:=λ_ _ _ e=>e
    fresh:=λ_ _ e=>.inl e
    keep:=⟨hsz,λb hb ho=>⟨.inl ⟨kh hb hsz,(hk1 b hb (ho.imp id (λh=>h.1.resolve_right (hnb b)))).1⟩,λq=>ke (hk1 b hb (ho.imp id (λh=>h.1.resolve_right (hnb b)))).2⟩⟩
    own:=λk b q _ e _ _=>⟨ke (hblk k b e).2,qh4 (hblk k b e).2⟩
    nT:=λk b _ e _=>⟨e,(hblk k b e).2⟩
    alive:=λn _ b e=>⟨e,ko (hblk n b e).2⟩
    nk:=hI1.nk
    qQ:=⟨λb h=>absurd h (hnb b),λk b _ e=>absurd ⟨k,e⟩ (hnb b),hI1.qQ.2.2⟩ }
   refine hK w' ok1 β' w' v m ?_ (λx u hx hne=>?_) ⟨λh=>?_,λv hv=>?_⟩ (λn hn=>by have hn:n∈s.res.keys:=hn;rw[hS.nk hno]at hn;cases hn) (λx u hx n hn=>?_)
   .exact iZ.oG ⟨jj _,λb hb hk=>⟨.inl ⟨hb,hk⟩,λ_=>rfl⟩⟩ (hS.nk hno) hv
   .simp only[qv,ju]at hx;exact absurd (by rw[hx.1]) hne
   .simp[get_nil,ic]at h
   .simp only[qd2,qe5,get_nil,ic,if_pos,qq]at hv;refine⟨j,hv.symm,G1,⟨xo gf.1 (xo hI1.gr.size hsz),λb hb hk=>?_⟩,λk v' hk=>?_⟩
    .have hbw:=kh hb gf.1;have⟨c1,c2⟩:=gf.2 b hb hk;have⟨c3,c4⟩:=hk1 b (kh hbw hI1.gr.size) (.inl ⟨hbw,c1⟩);exact⟨c3,c4.trans ((hgr.block b hbw oe).trans c2)⟩
    .have hk':get (dH ks++σL) (1000001,k+1)=some v':=by
      have:=get_skip [((1000001,0),Aj j)] (dH ks++σL) (1000001,k+1) oe;rw[<-this];exact hk
     have⟨j',j1,j2,j3⟩:=g2 k v' hk';exact⟨j',j1,od,λe=>od⟩
   .simp only[qv,ju]at hx;obtain⟨rfl,rfl⟩:=hx;cases hn
end
def TW{P:Program}{σ:St}{o:Oper}{T:Hints}{C a:List Sp}{ob:Obl}{u:Out}(h:Dk P T C σ o=some (u,a,ob)):∀s∈a,s∈C:=by
 have b:a=C\/∃s,C=s::a:=by
  unfold Dk K9 Hw Zc Qu frO at h
  repeat' split at h
  all_goals first
   | (cases h;done)
   | (simp only[qS,ju,qq]at h;first|(have⟨_,_,_,h,_⟩:=h;exact .inl h.symm)|(have⟨_,h,_⟩:=h;first|exact .inl h.symm|(subst h;exact .inr ⟨_,rfl⟩)))
 rcases b with rfl|⟨s,rfl⟩
 .exact λ_ h=>h
 .exact λ_ h=>by simp[h]
def CS{b:Nat->Option (Nat×Nat)} : ∀{ps:List (Nat×List X)}{xs ys:List X},xB b xs ps=some ys->∀y∈ys,y∈xs\/∃p∈ps,y∈p.2
 | [],xs,ys,h,y,c=>by simp only[xB,qq]at h;subst h;exact .inl c
 | (i,zs)::r,xs,ys,h,y,c=>by
  simp only[xB]at h;split at h<;>try (cases h;done)
  split at h<;>try (cases h;done)
  rcases CS h y c with a|⟨p,a,d⟩
  .simp only[ki]at a;rcases a with a|a|a
   .exact .inl (qe6 a)
   .exact .inr ⟨(i,zs),oe,a⟩
   .exact .inl (qh2 a)
  .exact .inr ⟨p,by simp[a],d⟩
def Af{σ:St} : ∀{a:List (Nat×Operand)}{ps:List (Nat×List X)},tV σ a=some ps->∀p∈ps,∀y∈p.2,∀n∈y.keys,∃x∈a.map (·.2),∃v,tC σ x=some v/\n∈v.keys
 | [],ps,h,p,b,_,_,_,_=>by simp only[tV,qq]at h;subst h;cases b
 | (i,x)::r,ps,h,p,b,y,d,n,c=>by
  simp only[tV]at h;split at h<;>try (cases h;done)
  rename_i A e;split at h<;>try (cases h;done)
  simp only[qS]at h;obtain⟨l,h,rfl⟩:=h;rcases kl.1 b with rfl|b
  .obtain⟨z,j,rfl⟩:=kB.1 d;exact⟨x,oe,_,e,A1.Ke j (by cases z<;>first|exact c|(rename_i o;cases o<;>exact c)|cases c)⟩
  .have⟨k,f,g⟩:=Af h p b y d n c;exact⟨k,by simp only[qc0,kl];exact .inr f,g⟩
def Dq(v:cm):∀x∈(ofV v).xs,x.keys=[]:=λx a=>by
 unfold ofV at a;split at a
 .obtain⟨y,_,rfl⟩:=kB.1 a;rfl
 .simp only[A1.xs,qv]at a;subst a;rfl
def Sa{n:Nat}{es:List bd}{l:Option Nat}{h:Option (Option Nat)}{v:AV}(e:qA n es l h=some v):v.keys=[]:=by
 unfold qA at e;split at e<;>try (cases e;done)
 all_goals
  simp only[qS]at e;obtain⟨_,_,rfl⟩:=e;rfl
def FM{op:BinOp}{k a:IntKind}{m n:Int}{v:AV}(h:bitO op k a m n=some v):v.keys=[]:=by
 unfold bitO at h;split at h<;>try (cases h;done)
 all_goals split at h<;>try (cases h;done)
 all_goals simp only[qq]at h;subst h;rfl
def Sr{z:bp}{l h:Option Nat}{v:AV}(e:Sn z l h=some v):v.keys=[]:=by
 unfold Sn at e;split at e<;>try (cases e;done)
 split at e<;>try (cases e;done)
 simp only[qq]at e;subst e;rfl
def NL{P:Program}{σ:St}{o:Op}{v:AV}(h:oI P σ o=some v):v.keys=[]:=by
 unfold oI at h;split at h<;>try (cases h;done)
 rotate_right
 .split at h<;>try (cases h;done)
  simp only[qS]at h;obtain⟨e,_,rfl⟩:=h;cases e<;>rfl
 .split at h<;>try (cases h;done)
  simp only[qq]at h;subst h;rfl
 .split at h<;>try (cases h;done)
  simp only[qq]at h;subst h;rfl
 .split at h<;>try (cases h;done)
  .unfold aaF at h;split at h<;>try (cases h;done)
   simp only[qS]at h;obtain⟨_,_,rfl⟩:=h;rfl
  .split at h<;>try (cases h;done)
   split at h<;>try (cases h;done)
   rename_i hc;refine List.eq_nil_iff_forall_not_mem.2 λn d=>?_;have⟨y,a,b⟩:=yw h n d;have c:=kd.1 hc.2.2.2 y a;cases y<;>first|(cases b;done)|(cases c;done)
def Tv{op:BinOp}{u:X}{v:AV}(h:nilO op u=some v):v.keys=[]:=by
 unfold nilO at h;split at h<;>try (cases h;done)
 all_goals
  simp only[qS]at h;obtain⟨_,_,rfl⟩:=h;rfl
def Nw{op:BinOp}{a b:Bool}{v:AV}(h:boolO op a b=some v):v.keys=[]:=by
 unfold boolO at h;split at h<;>try (cases h;done)
 all_goals simp only[qq]at h;subst h;rfl
def TB(v:AV):(normA v).keys=v.keys:=by unfold normA;split<;>rfl
def Gs{P:Program}{σ σL:St}{o:Oper}{v:AV}(h:fV P σ o.op=some v)(q:VX σL σ o):sO σL v:=by
 have d:∀{x:Operand} {v:AV},x∈o.op.operands.toList->tC σ x=some v->sO σL v:=λs e=>q _ s _ e;unfold fV at h;split at h
 case h_1 x b=>exact d (by simp[b,Op.operands]) h
 case h_2 x b=>exact d (by simp[b,Op.operands]) h
 case h_3 c x y b =>
  split at h<;>try (cases h;done)
  .exact d (x:=x) (by simp[b,Op.operands]) h
  .exact d (x:=y) (by simp[b,Op.operands]) h
 case h_4 t x f b =>
  repeat' (split at h<;>try (cases h;done))
  all_goals simp only[qq]at h;subst h
  .intro n a;cases a
  .intro n a;cases a
  .rename_i e;exact λn a=>d (x:=x) (by simp[b,Op.operands]) e n a
  .intro n a;cases a
 case h_5 t x i b =>
  repeat' (split at h<;>try (cases h;done))
  .unfold Bp at h
   repeat' (split at h<;>try (cases h;done))
   simp only[qq]at h;subst h;intro n a;cases a
  .rename_i e _;simp only[qq]at h;subst h;exact λn a=>d (x:=x) (by simp[b,Op.operands]) e n a
  .simp only[qq]at h;subst h;intro n a;cases a
  .simp only[qq]at h;subst h;intro n a;cases a
 case h_6 t x F E b =>
  repeat' (split at h<;>try (cases h;done))
  all_goals first
   | (intro n a;rw[Sa h]at a;cases a;done)
   | (intro n a;rw[Sr h]at a;cases a;done)
   | (simp only[qq]at h;subst h;have e:=‹tC σ x=some (AV.of (A1.one (X.g _ _ _)))›;exact λn a=>d (x:=x) (by simp[b,Op.operands]) e n a)
 case h_7 t x y z b =>
  repeat' (split at h<;>try (cases h;done))
  simp only[qS]at h;obtain⟨_,_,rfl⟩:=h;intro n a;cases a
 case h_8 t x f b =>
  repeat' (split at h<;>try (cases h;done))
  intro n a;have⟨y,j,k⟩:=yw h n a;refine d (x:=x) (v:=.of (.agg _)) (by simp[b,Op.operands]) oR n (by simp only[AV.keys,A1.keys,qb2];exact⟨y,qh2 (qe6 j),k⟩)
 case h_9 x i b =>
  split at h<;>try (cases h;done)
  rename_i az e;simp only[qS]at h;obtain⟨A,j,rfl⟩:=h;exact λn a=>d (x:=x) (by simp[b,Op.operands]) e n (by simp only[AV.keys,qb2];exact⟨A,ka j,a⟩)
 case h_10 op t x y H b =>
  repeat' (split at h<;>try (cases h;done))
  .unfold cmpO at h
   repeat' split at h
   all_goals first|(cases h;done)|(intro n a;rw[FM h]at a;cases a;done)|(simp only[qq]at h;subst h;intro n a;cases a)
  all_goals first|(intro n a;rw[FM h]at a;cases a;done)|(intro n a;rw[Tv h]at a;cases a;done)|(intro n a;rw[Nw h]at a;cases a;done)|simp only[qq]at h;subst h;intro n a;cases a
 case h_11 t x b =>
  split at h<;>try (cases h;done)
  simp only[qq]at h;subst h;intro n a;cases a
 case h_12 x b =>
  split at h<;>try (cases h;done)
  .simp only[qq]at h;subst h;intro n a;cases a
  .simp only[qq]at h;subst h;intro n a;cases a
  .rename_i e;simp only[qq]at h;subst h;exact λn a=>d (x:=x) (by simp[b,Op.operands]) e n a
  .simp only[qq]at h;subst h;intro n a;cases a
 case h_13 t l b =>
  split at h<;>try (cases h;done)
  rename_i D z G _ _ r;split at h<;>try (cases h;done)
  simp only[qS]at h;obtain⟨I,h,rfl⟩:=h;intro n a;simp only[AV.keys,A1.keys,qb2]at a;have⟨y,u,a⟩:=a;rcases CS h y u with j|⟨p,j,k⟩
  .rw[Dq _ y j]at a;cases a
  .have⟨x,w,v,B,C⟩:=Af r p j y k n a;exact d (x:=x) (by simp only[b,Op.operands];simpa using w) B n C
 case h_14 m x b =>
  repeat' (split at h<;>try (cases h;done))
  all_goals simp only[qq]at h;subst h;intro n a;cases a
 case h_15 args m b =>
  split at h<;>try (cases h;done)
  split at h<;>try (cases h;done)
  simp only[qq]at h;subst h;intro n a;cases a
 case h_16 args m b =>
  split at h<;>try (cases h;done)
  split at h<;>try (cases h;done)
  simp only[qq]at h;subst h;intro n a;cases a
 case h_17=>intro n a;rw[NL h]at a;cases a
def Jf{σ:St}{o:Oper}{A:A1}{u:Out}(h:M6 σ o A=some u):A.xs.all X.plain:=by
 unfold M6 at h;split at h
 .rename_i d x xs b a;split at h
  .rename_i hc;rw[a];exact hc.1
  .cases h
 .cases h
section
variable {P:Program}{Wb W0:cg}{okb ok0:br}{ds:List Deferred}{nt:Nat}{β:Nat->Option Nat}{a:Act}{w:cg}{σ σL:St}{o:Oper}{T:Hints}{C C':List Sp}{ob:Obl}{u:Out}
def Dl[pq](D:Inv Wb okb W0 ok0 ds nt β a w σL)(h:Dk P T C σ o=some (u,C',ob))(H:CK β (okB W0.heap.size ok0 β) a w σ o)(G:VX σL σ o)(Y:∀s∈C,Holds P s)(B:∀p∈ob,p.2)
 (hag:∀x∈u.rd,get σL x=get σ x) (hag2:∀x∈u.mem.map (·.1),get σL x=get σ x):Comes P Wb okb W0 ok0 β a w σL o u:=by
 have q:Hw P T C σ o=some (u,C',ob)->Comes P Wb okb W0 ok0 β a w σL o u:=λh=>by
  unfold Hw at h;split at h
  .simp only[qS,ju]at h;obtain⟨v,K,rfl,_⟩:=h;exact P8 D (BU K H) (Gs K G)
  .simp only[qq,ju]at h;obtain⟨rfl,_,rfl⟩:=h;have K:=B (true,_) (qv.2 rfl);exact P8 D (BU K H) (Gs K G)
 have E:∀x,o.op =.move x\/o.op =.assign x->K9 P T C σ o x=some (u,C',ob)->Comes P Wb okb W0 ok0 β a w σL o u:=λx j h=>by
  unfold K9 at h;split at h
  .exact q h
  .split at h
   .rename_i k n l W;split at h<;>try (cases h;done)
    rename_i e m R S;split at h<;>try (cases h;done)
    rename_i hc;obtain⟨rfl,I⟩:=hc;simp only[qq,ju]at h;obtain⟨rfl,rfl,rfl⟩:=h;have hx:=H x (by rcases j with j|j<;>simp[j,Op.operands]) _ W;refine Comes.Y2 D (ks:=[k]) (λV r=>by simp only[qv]at r;subst r;exact I) (rd:=[]) (λβ' hβ M J L _=>?_);have hs:mX σ (.g k m l)=some (.d (.s m R)):=by simp[mX,S,I]
    have hr:=(zI D (okS:=okB W0.heap.size ok0 β') M (λV r=>by simp only[X.keys,qv]at r;subst r;exact J _ oe) hs (λp hp=>B p (by simpa only[QS,S]using hp)) (λV r=>by simp only[X.keys,qv]at r;subst r;exact hag _ (by simp[sV])) hx).1;exact P8 L (v:=.of (.one (.d (.s m R)))) ⟨a.eval x,by rcases j with j|j<;>simp[execOp,j,Result.andThen],hr⟩ (λn F=>by cases F)
   .exact q h
 cases j:o.op with
 | box t x =>
  simp only[Dk,j]at h;split at h<;>try (cases h;done)
  rename_i A e;simp only[qS,ju]at h;obtain⟨u2,h,rfl,_⟩:=h;refine V8 D (A:=A) (v:=a.eval x) (elem:=t) (gm.cells (H x (by simp[j,Op.operands]) _ e) (Jf h)) (λy N n F=>G x (by simp[j,Op.operands]) _ e n (A1.Ke N F)) h hag hag2 ?_;simp[execOp,j,Instr.box,newVar,newRow,Result.andThen]
 | alloc t =>
  simp only[Dk,j]at h;split at h<;>try (cases h;done)
  rename_i z hz;simp only[qS,ju]at h;obtain⟨u2,h,rfl,_⟩:=h;have⟨i,Z,O⟩:=qf1.1 hz;refine V8 D (A:=ofV z) (v:=z) (elem:=t) yK (λy N n F=>by rw[Dq _ y N]at F;cases F) h hag hag2 ?_;simp[execOp,j,Instr.alloc,zeroValue,run_typeInfo _ Z,O,newVar,newRow,Result.andThen]
 | load t x=>exact (WZ D j h H B hag).2
 | move x=>exact E x (.inl j) (by simpa only[Dk,j]using h)
 | assign x=>exact E x (.inr j) (by simpa only[Dk,j]using h)
 | store t x y=>exact (TP D j h H G B hag).2
 | buildSlice t n Q=>exact TN D j h H hag hag2
 | call c =>
  cases hc:c.callee with
  | value f =>
   cases U:(tC σ f).bind fnO with
   | some g=>exact c_call D j hc U h H Y B hag hag2
   | none=>refine q ?_;simpa only[Dk,j,hc,U]using h
  | builtin b =>
   cases b with
   | append=>exact P7 D j hc h H G B hag hag2
   | _=>refine q ?_;simpa only[Dk,j,hc]using h
  | _=>refine q ?_;simpa only[Dk,j,hc]using h
 | _=>refine q ?_;simpa only[Dk,j]using h
def Inv.adb[pq](l:Inv Wb okb W0 ok0 ds nt β a w σL)(e:∀x∈Fb o,get σL x=get σ x):VX σL σ o:=λx m v d=>by
 cases x with
 | tmp t =>
  obtain⟨p,i,rfl⟩:=qS.1 d;intro n b;rw[TB]at b;exact l.hk (0,t) p ((e _ (by unfold Fb;rw[List.mem_filterMap];exact⟨_,m,rfl⟩)).trans i) n b
 | const c =>
  simp only[tC,qq]at d;subst d;intro n b;have : ∀A:A1,n∈A.keys->∃y∈A.xs,n∈y.keys:=λA h=>by
   cases A with
   | one y=>exact⟨y,by simp[A1.xs],h⟩
   | agg q=>simp only[A1.keys,qb2]at h;exact h
  have⟨y,k,j⟩:=this _ b;rw[Dq c y k]at j;cases j
 | global g=>cases d
 | func f =>
  simp only[tC,qq]at d;subst d;intro n b;cases b
def Inv.ops[pq](d:Inv Wb okb W0 ok0 ds nt β a w σL)(b:∀x∈Fb o,get σL x=get σ x):CK β (okB W0.heap.size ok0 β) a w σ o:=λx g v f =>
 ET f (λt e h c=>d.rep _ _ oe ((b _ (by subst e;unfold Fb;rw[List.mem_filterMap];exact⟨_,g,rfl⟩)).trans c))
def Co[pq]{ops:Array Oper}{i:Nat}{rc:Rec}{K:Act->cg->Prop}{Q:Exit->Act->cg->Prop}(f:Inv Wb okb W0 ok0 ds nt β a w σL)(hi:ops[i]?=some o)(h:El P T nt ops C σ o=some (rc,C',ob))(M:∀s∈C,Holds P s)(F:∀p∈ob,p.2)
 (hag:∀x∈rc.rd,get σL x=get σ x) (hag2:∀x∈rc.ws,get σL x=get σ x) (hK:∀B t β' a' w',Inv Wb okb B t ds nt β' a' w' (rc.wr++σL)->K a' w'):wpOp P ops Q i K a w:=by
 have N:∀g,zW P T nt C σ o g=some (rc,C',ob)->o.wp P a w K Q:=λg h=>by
  unfold zW at h;split at h<;>try (cases h;done)
  rename_i u Y X R;split at h
  .rename_i d k;split at h<;>try (cases h;done)
   rename_i z;simp only[qq,ju]at h;obtain⟨rfl,rfl,rfl⟩:=h;refine Dl f R (f.ops (λx c=>hag x (by simp[c]))) (f.adb (λx c=>hag x (by simp[c]))) M F (λx c=>hag x (by simp[c])) (λx c=>hag2 x (by simp only[Rec.ws,qc0,kl];exact .inr c)) K Q ?_;intro B t β' w' val m S H r E y;refine hK B t β' _ w' ((f.next m (wr:=((0,d),u.res.getD undefA)::u.mem) (λx c=>by simp only[qc0,kl];exact .inr c) (λx e=>by rw[k]at e;simp only[qq]at e;subst e;simp) (λx v c A=>?_) ?_ (λx v c n G=>?_)))
   rotate_left
   .rw[qd2];exact lU.skip (l:=[((0,d),u.res.getD undefA)]) r oe
   .rw[qd2];refine get_mono [((0,d),u.res.getD undefA)] _ _ (.inl ?_);simp only[kl,ju]at c;rcases c with⟨_,rfl⟩|c
    .exact E n G
    .exact y x v c n G
   simp only[kl,ju]at c;rcases c with⟨rfl,rfl⟩|c
   .exact⟨val,by rw[k];exact Fg a d val (by rw[f.sz];exact z),S⟩
   .exact H x v c A _
  .rename_i k;simp only[qq,ju]at h;obtain⟨rfl,rfl,rfl⟩:=h;refine Dl f R (f.ops (λx c=>hag x (by simp[c]))) (f.adb (λx c=>hag x (by simp[c]))) M F (λx c=>hag x (by simp[c])) (λx c=>hag2 x c) K Q ?_;intro B t β' w' val m S H r E y;exact hK B t β' _ w' ((f.next m (wr:=u.mem) (λx c=>c) (λx e=>by rw[k]at e;cases e) (λx v c A=>H x v c A _) r y))
 have O:∀g,zX nt C o g=some (rc,C',ob)->K (a.put o.dst undef) w:=λg h=>by
  have m:=f.grow (w':=w) ⟨rfl,rfl,rfl,jj _,λ_ _ _=>rfl⟩;unfold zX at h;split at h
  .rename_i d k;split at h<;>try (cases h;done)
   rename_i z;simp only[qq,ju]at h;obtain⟨rfl,rfl,rfl⟩:=h;refine hK W0 ok0 β _ w (f.next m oe (λx e=>by rw[k]at e;simp only[qq]at e;subst e;simp) (λx v c _=>?_) (f.FK.skip oe) (λx v c n G=>by simp only[qv,ju]at c;obtain⟨_,rfl⟩:=c;cases G));simp only[qv,ju]at c;obtain⟨rfl,rfl⟩:=c;exact⟨undef,by rw[k];exact Fg a d undef (by rw[f.sz];exact z),fI.v _⟩
  .rename_i k;simp only[qq,ju]at h;obtain⟨rfl,rfl,rfl⟩:=h;exact hK W0 ok0 β _ w (f.next m oe (λx e=>by rw[k]at e;cases e) oe f.FK oe)
 have W:∀g,zW P T nt C σ o g=some (rc,C',ob)->∀x∈g,x∈rc.rd:=λg h x c=>by
  unfold zW at h;split at h<;>try (cases h;done)
  split at h
  .split at h<;>try (cases h;done)
   simp only[qq,ju]at h;obtain⟨rfl,_⟩:=h;simp[c]
  .simp only[qq,ju]at h;obtain⟨rfl,_⟩:=h;simp[c]
 have D:∀g,zX nt C o g=some (rc,C',ob)->∀x∈g,x∈rc.rd:=λg h x c=>by
  unfold zX at h;split at h
  .split at h<;>try (cases h;done)
   simp only[qq,ju]at h;obtain⟨rfl,_⟩:=h;exact c
  .simp only[qq,ju]at h;obtain⟨rfl,_⟩:=h;exact c
 unfold wpOp;rw[hi];simp only;unfold El at h;split at h
 .rename_i q;rw[if_pos (by simp[Region.wanted,q])];exact .inl (N _ h)
 .rename_i j U q;split at h<;>try (cases h;done)
  rename_i d k;have J:∀(x:cm) (v:cm),get σ (0,d)=some (.of (.one (.d (.v x))))->(0,d)∈rc.rd->a.tmps[d]?=some x:=λx v e c=>by have⟨u,L,V⟩:=f.rep (0,d) _ oe ((hag _ c).trans e);rw[bW V]at L;exact L
  split at h<;>try (cases h;done)
  .rename_i b e;split at h
   .rename_i I;subst I;have:=J _ undef e (W _ h _ oe);rw[if_pos (by simp[Region.wanted,q,yielded,k,this])];exact .inl (N _ h)
   .rename_i I;have:=J _ undef e (D _ h _ oe);rw[if_neg (by simp[Region.wanted,q,yielded,k,this,I])];exact O _ h
  .rename_i cs e;have:=J _ undef e (D _ h _ oe);rw[if_neg (by simp[Region.wanted,q,yielded,k,this])];exact O _ h
end
def Ow{P:Program}{σ:St}{o:Oper}{T:Hints}{nt:Nat}{b:Array Oper}{C a:List Sp}{ob:Obl}{rc:Rec}(h:El P T nt b C σ o=some (rc,a,ob)):∀s∈a,s∈C:=by
 have c:∀g,zW P T nt C σ o g=some (rc,a,ob)->∀s∈a,s∈C:=λg h=>by
  unfold zW at h;split at h<;>try (cases h;done)
  rename_i u i f e;have:=TW e
  repeat' split at h
  all_goals first
   | (cases h;done)
   | (simp only[qq,ju]at h;obtain⟨_,rfl,_⟩:=h;exact this)
 have d:∀g,zX nt C o g=some (rc,a,ob)->∀s∈a,s∈C:=λg h=>by
  unfold zX at h
  repeat' split at h
  all_goals first
   | (cases h;done)
   | (simp only[qq,ju]at h;obtain⟨_,rfl,_⟩:=h;exact λ_ h=>h)
 unfold El at h
 repeat' split at h
 all_goals first
  | (cases h;done)
  | exact c _ h
  | exact d _ h
def acc (L:Nat->Bool):List Rec->Nat->St->St
 | [],_,σ=>σ
 | r::rs,i,σ=>acc L rs (i+1) (if L i then r.wr++σ else σ)
def get_hit:∀(l σ σ':St) (x:Loc),x∈l.map (·.1)->get (l++σ) x=get (l++σ') x
 | (k,u)::l,σ,σ',x,h=>by
  simp only[qd2,get_nil,ic];split
  .rfl
  .rename_i e;simp only[qc0,kl]at h;rcases h with h|h
   .exact absurd h.symm e
   .exact get_hit l σ σ' x h
def qw{L b:Nat->Bool}{x:Loc} : ∀(rs:List Rec) (i:Nat) (σ σ':St),get σ x=get σ' x->(∀(j:Nat) (r:Rec),rs[j]?=some r->x∈r.ws->L (i+j)=b (i+j))->get (acc L rs i σ) x=get (acc b rs i σ') x
 | [],i,σ,σ',h,_=>h
 | r::rs,i,σ,σ',h,c=>by
  simp only[acc];refine qw rs (i+1) _ _ ?_ (λj q d a=>by have:=c (j+1) q (by simpa using d) a;rwa [show i+(j+1)=i+1+j by omega]at this)
  by_cases a:x∈r.ws
  .have:=c 0 r rfl a;rw[qf3]at this;rw[this];split
   .exact get_hit _ _ _ _ a
   .exact h
  .split<;>split<;>simp only[get_skip _ _ _ a,h]
def acc_none:∀(rs:List Rec) (i:Nat) (σ:St) (L:Nat->Bool),(∀j,L (i+j)=false)->acc L rs i σ=σ
 | [],_,_,_,_=>rfl
 | r::rs,i,σ,L,h=>by have a:=h 0;rw[qf3]at a;simp only[acc,a];exact acc_none rs (i+1) σ L (λj=>by have:=h (j+1);rwa [show i+(j+1)=i+1+j by omega]at this)
def acc_succ:∀(rs:List Rec) (i b:Nat) (σ:St) (r:Rec),rs[i]?=some r->acc (λj=>decide (j<b+(i+1))) rs b σ=r.wr++acc (λj=>decide (j<b+i)) rs b σ
 | q::rs,0,b,σ,r,h=>by simp only[kO,qq]at h;subst h;simp only[acc];rw[acc_none rs (b+1) _ _ (λj=>by simp<;>omega),acc_none rs (b+1) _ _ (λj=>by simp<;>omega)];simp
 | q::rs,i+1,b,σ,r,h=>by simp only[acc];have:=acc_succ rs i (b+1) (q.wr++σ) r (by simpa using h);rw[if_pos (by simp<;>omega),if_pos (by simp<;>omega)];simp only[show b+(i+1+1)=b+1+(i+1) by omega,show b+(i+1)=b+1+i by omega];exact this
def acc_all:∀(rs:List Rec) (b:Nat) (σ:St),acc (λj=>decide (j<b+rs.length)) rs b σ=rs.foldl (λs r=>r.wr++s) σ
 | [],_,_=>rfl
 | r::rs,b,σ=>by simp only[acc,js,List.foldl_cons];rw[if_pos oe];have:=acc_all rs (b+1) (r.wr++σ);rwa [show b+1+rs.length=b+(rs.length+1) by omega]at this
section
variable {P:Program}{Wb W0:cg}{okb ok0:br}{ds:List Deferred}{nt:Nat}{β:Nat->Option Nat}{a:Act}{w:cg}{σ σ':St}{T:Hints}{C C':List Sp}{ob:Obl}{ops:Array Oper}{rs:List Rec}{Q:Exit->Act->cg->Prop}
def Inv.congr[pq](h:Inv Wb okb W0 ok0 ds nt β a w σ)(e:∀x,get σ x=get σ' x):Inv Wb okb W0 ok0 ds nt β a w σ' :=
 ⟨h.gr,h.new,h.inj,λk b f=>by rw[<-e];exact h.dom k b f,λx v c d=>h.rep x v c (by rw[e];exact d),h.XU,h.sz,h.nk,h.FK.congr (λq=>(e _).symm),λx v d n g=>by rw[<-e];exact h.hk x v (by rw[e];exact d) n g,h.qQ⟩
def Inv.drew[pq](h:Inv Wb okb W0 ok0 ds nt β a w σ):Inv Wb okb W0 ok0 ds nt β a { w with drawn:=w.drawn+1 } σ:=by have g:cq w { w with drawn:=w.drawn+1 } none:=⟨rfl,rfl,rfl,jj _,λ_ _ _=>rfl⟩;exact (h.next (h.grow g) (wr:=[]) (d:=none) (u:=undef) oe oe oe h.FK oe)
def evR_at:∀(l:List Oper) (C:List Sp) (σ σ':St) (C':List Sp) (ob:Obl) (rs:List Rec),Xg P T nt ops l C σ=some (σ',C',ob,rs) ->
 (∀s∈C',s∈C)/\rs.length=l.length/\σ'=rs.foldl (λs r=>r.wr++s) σ/\∀(i:Nat) (o:Oper),l[i]?=some o->∃r d f a,rs[i]?=some r/\El P T nt ops d (acc (λj=>decide (j<i)) rs 0 σ) o=some (r,f,a)/\(∀s∈d,s∈C)/\∀p∈a,p∈ob
 | [],C,σ,σ',C',ob,rs,h=>by simp only[Xg,qq,ju]at h;obtain⟨rfl,rfl,rfl,rfl⟩:=h;exact⟨λ_ h=>h,rfl,rfl,λi o h=>by simp at h⟩
 | o::l,C,σ,σ',C',ob,rs,h=>by
  simp only[Xg]at h;split at h<;>try (cases h;done)
  rename_i e n m t;split at h<;>try (cases h;done)
  rename_i σ2 H G c z;simp only[qq,ju]at h;obtain⟨rfl,rfl,rfl,rfl⟩:=h;have⟨B,D,E,F⟩:=evR_at l n (e.wr++σ) _ _ _ _ z;have u:=Ow t;refine⟨λs h=>u s (B s h),by simp[D],by simp[E],λi q k=>?_⟩
  cases i with
  | zero =>
   simp only[kO,qq]at k;subst k;refine⟨e,C,n,m,rfl,?_,λ_ h=>h,λp g=>by simp[g]⟩;rw[acc_none _ _ _ _ (λj=>oe)];exact t
  | succ i =>
   have⟨r,d,f,a,v,w,x,y⟩:=F i q (by simpa using k);refine⟨r,d,f,a,by simpa using v,?_,λs h=>u s (x s h),λp g=>by simp[y p g]⟩;simp only[acc];rw[if_pos oe];have : acc (λj=>decide (j<i+1)) c (0+1) (e.wr++σ)=acc (λj=>decide (j<i)) c 0 (e.wr++σ):=by
    have sh:∀(rs:List Rec) (b:Nat) (σ:St),acc (λj=>decide (j<i+1)) rs (b+1) σ=acc (λj=>decide (j<i)) rs b σ:=λrs=>by
     induction rs with
     | nil=>intros;rfl
     | cons r rs A =>
      intro b σ;simp only[acc,Nat.add_lt_add_iff_right];exact A _ _
    exact sh _ _ _
   rw[this];exact w
def Ou[pq](c:Inv Wb okb W0 ok0 ds nt β a w σ)(h:Xg P T nt ops ops.toList C σ=some (σ',C',ob,rs))(u:∀s∈C,Holds P s)(k:∀p∈ob,p.2)
 (hQ:∀f b β' a' w',Inv Wb okb f b ds nt β' a' w' σ'->Q .normal a' w'):wpOps P ops Q (List.range ops.size) a w:=by
 have⟨_,A,B,D⟩:=evR_at _ _ _ _ _ _ _ h;have l:∀(n i:Nat) (W0:cg) (ok0:br) (β:Nat->Option Nat) (a:Act) (w:cg),i+n=ops.size->Inv Wb okb W0 ok0 ds nt β a w (acc (λj=>decide (j<i)) rs 0 σ)->wpOps P ops Q (List.range' i n) a w:=λn=>by
  induction n with
  | zero =>
   intro i W0 ok0 β a w v c;simp only[List.range'_zero,wpOps];refine hQ W0 ok0 β a w ?_;have e:i=0+rs.length:=by rw[A,ja0];omega
   rw[e,acc_all,<-B]at c;exact c
  | succ n z =>
   intro i W0 ok0 β a w v c;rw[List.range'_succ,wpOps_cons];have d:i<ops.size:=od
   have⟨r,F,G,E,m,o,q,t⟩:=D i ops[i] (by simp[d]);refine Co c (qc7 d) o (λs y=>u s (q s y)) (λp x=>k p (t p x)) (λ_ _=>rfl) (λ_ _=>rfl) (λf b β' a' w' g=>z (i+1) f b β' a' w' od ?_);have:=acc_succ rs i 0 σ r m;simp only[qb1]at this;rw[this];exact g
 have:=l ops.size 0 W0 ok0 β a w od (by rw[acc_none _ _ _ _ (λj=>oe)];exact c);rwa [List.range_eq_range']
def Kn{x:Loc} : ∀{l:List Loc},x∈l->x.1∈blks l
 | y::r,h=>by
  simp only[blks];rcases kl.1 h with rfl|h
  .split
   .simp
   .rename_i k l e
    cases b:Nat.beq x.1 k with
    | false=>simp
    | true=>rw[Bf b];simp
  .have a:=Kn h;split
   .rename_i e;rw[e]at a;cases a
   .rename_i k l e;rw[e]at a
    cases b:Nat.beq y.1 k with
    | false=>exact jf7 _ a
    | true=>exact a
def xR{a b:List Loc}{x:Loc}(d:x∈a)(c:x∈b):meets a b:=by unfold meets;rw[qg0];exact⟨x,d,by rw[qt,qg0,qg0];exact⟨⟨x.1,Kn c,Nat.beq_refl _⟩,x,c,oe⟩⟩
def Dh{A:List Oper}{o:Oper}{r:Rec} : ∀(l:List Rec) (b:Nat),AZ A o r b l->∀(i:Nat) (q:Rec),l[i]?=some q->clash q r->waits A 9 o (b+i)
 | q::l,b,h,0,c,a,hc=>by simp only[kO,qq]at a;subst a;simp only[AZ,qt,qe2,hc]at h;simpa using h.1
 | q::l,b,h,i+1,c,a,hc=>by simp only[AZ,qt]at h;have:=Dh l (b+1) h.2 i c (by simpa using a) hc;rwa [show b+1+i=b+(i+1) by omega]at this
def TQ{A:List Oper}(os:List Oper):∀(rs dn:List Rec) (b:Nat),dn.length=b->calm A os rs dn b->∀(i:Nat) (o:Oper) (r:Rec),os[i]?=some o->rs[i]?=some r ->
 (∀e∈o.after.toList,Region.binds .any e->e.on<b+i)/\∀(k:Nat) (q:Rec),(dn++rs)[k]?=some q->k<b+i->clash q r->waits A 9 o k:=by
 induction os with
 | nil=>intro rs dn b _ _ i o r h;simp at h
 | cons o os n =>
  intro rs dn b d h i p s c a
  cases rs with
  | nil=>simp at a
  | cons r rs =>
   simp only[calm,qt,kd,qe2,qg1,jt]at h;have⟨⟨g,j⟩,l⟩:=h
   cases i with
   | zero =>
    simp only[kO,qq]at c a;subst c;subst a;refine⟨λe m d=>(j e m).resolve_left (by simp[d]),λk q f hk hc=>?_⟩;have:=Dh dn 0 g k q (by rw[zd od]at f;exact f) hc;rwa [qb1]at this
   | succ i =>
    have:=n rs (dn++[r]) (b+1) (by simp[d]) l i p s (by simpa using c) (by simpa using a);rw[show b+1+i=b+(i+1) by omega,qa3,jb1]at this;exact this
def sP{A:List Oper}{L:Nat->Bool}(hc:∀(i:Nat) (o:Oper),A[i]?=some o->L i->∀k,edge o k->L k):∀(n:Nat) (o:Oper) (k:Nat),(∀k,edge o k->L k)->waits A n o k->L k
 | 0,_,_,_,h=>by cases h
 | n+1,o,k,b,h=>by
  simp only[waits,qe2,qg0,qt]at h;rcases h with h|⟨e,f,d,h⟩
  .exact b k h
  .cases a:A[e.on]? with
   | none=>rw[a]at h;cases h
   | some c =>
    rw[a]at h;refine sP hc n c k (hc e.on c a (b e.on ?_)) h;unfold edge;rw[qg0];exact⟨e,f,by simp[d]⟩
def M5[pq](I:Inv Wb okb W0 ok0 ds nt β a w σ)(h:Xg P T nt ops ops.toList C σ=some (σ',C',ob,rs))(N:calm ops.toList ops.toList rs [] 0)(hC:∀s∈C,Holds P s)(an:∀p∈ob,p.2)
 (hQ:∀W1 R β' a' w',Inv Wb okb W1 R ds nt β' a' w' σ'->Q .normal a' w'):wpAny P .any ops Q ops.size (Array.replicate ops.size false) a w:=by
 have⟨_,k2,k3,k4⟩:=evR_at _ _ _ _ _ _ _ h;replace k2:rs.length=ops.size:=k2.trans ja0;have M:∀(i:Nat) (o:Oper) (r:Rec),ops[i]?=some o->rs[i]?=some r->(∀e∈o.after.toList,Region.binds .any e->e.on<i)/\∀(k:Nat) (q:Rec),rs[k]?=some q->k<i->clash q r->waits ops.toList 9 o k:=λi o r h1 h2=>by have:=TQ ops.toList rs [] 0 rfl N i o r (by simpa using h1) h2;simpa using this
 -- what is c waits for nothing
 have ax:∀(t:Nat) (c:Array Bool) (W0:cg) (ok0:br) (β:Nat->Option Nat) (a:Act) (w:cg),c.size=ops.size->((List.range ops.size).filter λi=>!c.getD i true).length<=t ->
  (∀(i:Nat) (o:Oper),ops[i]?=some o->c.getD i true->∀k,edge o k->c.getD k false) ->
  Inv Wb okb W0 ok0 ds nt β a w (acc (λj=>c.getD j false) rs 0 σ)->wpAny P .any ops Q t c a w:=λt=>by
  have done:∀(c:Array Bool) (W0:cg) (ok0:br) (β:Nat->Option Nat) (a:Act) (w:cg),c.size=ops.size->Region.ready .any ops c=[]->Inv Wb okb W0 ok0 ds nt β a w (acc (λj=>c.getD j false) rs 0 σ)->Q .normal a w:=λc W0 ok0 β a w g U I=>by
   have ad:∀n i,i<n->i<ops.size->c.getD i false:=λn=>by
    induction n with
    | zero=>intro i G;omega
    | succ n ih =>
     intro i G d
     by_cases hc:c.getD i true
     .simpa[ue,g,d]using hc
     .exfalso;have v:i∈Region.ready .any ops c:=by
       unfold Region.ready;rw[jb4];refine⟨by simpa using d,?_⟩;have⟨r,_,_,_,ar,_⟩:=k4 i ops[i] (by simp[d]);have aq:=(M i ops[i] r (qc7 d) ar).1;simp only[qc7 d,qg6,jb5,qt,qg1,jc4];refine⟨by simpa using hc,λe W=>?_⟩
       cases V:Region.binds .any e with
       | false=>rfl
       | true =>
        have:=aq e (by simpa using W) V;rw[ih e.on od od];rfl
      rw[U]at v;cases v
   refine hQ W0 ok0 β a w (I.congr (λx=>?_));rw[k3,<-acc_all rs 0 σ];refine qw rs 0 σ σ rfl (λj r B _=>?_);have d:j<ops.size:=by rw[<-k2];exact (qT.1 B).1
   rw[qb1,ad (j+1) j od d];simp;omega
  induction t with
  | zero =>
   intro c W0 ok0 β a w g F f I;have K:((List.range ops.size).filter λi=>!c.getD i true)=[]:=jz od;have U:Region.ready .any ops c=[]:=by unfold Region.ready;rw[List.filter_eq_nil_iff]at K|-;intro i G;have:=K i G;simp only[Bool.not_eq_true,Bool.not_eq_false']at this;simp[this]
   exact⟨U,done c W0 ok0 β a w g U I⟩
  | succ t ih =>
   intro c W0 ok0 β a w g F f I;refine⟨λU=>done c W0 ok0 β a w g U I,λi G=>?_⟩;unfold Region.ready at G;rw[jb4]at G;have⟨X,Y⟩:=G;have d:i<ops.size:=by simpa using X
   simp only[qc7 d,qg6,jb5,qt,qg1,jc4]at Y;have⟨ab,E⟩:=Y;have y:∀k,edge ops[i] k->c.getD k false:=λk S=>by unfold edge at S;rw[qg0]at S;have⟨e,W,V⟩:=S;simp only[qt,jg3]at V;have:=E e (by simpa using W);simp only[V.1,Bool.not_true,jd3]at this;rw[<-V.2];exact this
   have m:∀(i:Nat) (o:Oper),ops.toList[i]?=some o->c.getD i false->∀k,edge o k->c.getD k false:=λi o h1 h2=>f i o (by simpa using h1) (by
    have : i<ops.size:=by simpa using (qT.1 h1).1
    simpa[ue,g,this]using h2)
   have L:c.getD i false=false:=by simpa[ue,g,d]using ab
   have⟨r,Ci,Cj,az,e1,e2,e3,e4⟩:=k4 i ops[i] (by simp[d]);have aj:=M i ops[i] r (qc7 d) e1
   -- writers of what it touches
   have wr:∀x,(x∈r.rd\/x∈r.ws)->∀(j:Nat) (q:Rec),rs[j]?=some q->x∈q.ws->c.getD j false=decide (j<i):=λx l j q A D=>by
    have B:j<ops.size:=by rw[<-k2];exact (qT.1 A).1
    rcases Nat.lt_trichotomy j i with J|rfl|ak
    .have O:clash q r:=by
      unfold clash;rcases l with l|l
      .rw[xR D l];rfl
      .rw[xR D l];simp
     rw[sP m _ _ j y (aj.2 j q A J O)];simp[J]
    .rw[L];simp
    .have O:clash r q:=by
      unfold clash;rcases l with l|l
      .rw[xR l D];simp
      .rw[xR l D];simp
     have W:=(M j ops[j] q (qc7 B) A).2 i r e1 ak O
     cases hL:c.getD j false with
     | false=>simp;omega
     | true =>
      have ah:c.getD j true:=by simpa[ue,g,B]using hL
      have:=sP m _ _ i (f j ops[j] (qc7 B) ah) W;rw[L]at this;cases this
   have z:∀x,(x∈r.rd\/x∈r.ws)->get (acc (λj=>c.getD j false) rs 0 σ) x=get (acc (λj=>decide (j<i)) rs 0 σ) x:=λx l =>
    qw rs 0 σ σ rfl (λj q A D=>by rw[qb1];exact wr x l j q A D)
   refine Co I (qc7 d) e2 (λs hs=>hC s (e3 s hs)) (λp hp=>an p (e4 p hp)) (λx l=>z x (.inl l)) (λx l=>z x (.inr l)) (λW1 R β' a' w' ae=>?_);have u:∀(j:Nat) (b:Bool),(c.setIfInBounds i true).getD j b=if j=i then true else c.getD j b:=λj b=>by
    simp only[ue,Array.getElem?_setIfInBounds]
    by_cases e:i=j
    .subst e;simp[g,d]
    .simp[e,Ne.symm e]
   refine ih (c.setIfInBounds i true) W1 R β' a' w' (by simpa using g) ?_ ?_ (ae.congr (λx=>?_))
   .have v:i∈(List.range ops.size).filter λi=>!c.getD i true:=by rw[jb4];exact⟨X,by simp[ab]⟩
    have aa:((List.range ops.size).filter λj=>!(c.setIfInBounds i true).getD j true)=(((List.range ops.size).filter λj=>!c.getD j true)).filter (λj=>decide (j≠i)):=by
     rw[List.filter_filter];refine List.filter_congr (λj _=>?_);rw[u]
     by_cases e:j=i<;>simp[e]
    rw[aa];have : ((((List.range ops.size).filter λj=>!c.getD j true)).filter (λj=>decide (j≠i))).length<((List.range ops.size).filter λj=>!c.getD j true).length :=
     List.length_filter_lt_length_iff_exists.2 ⟨i,v,oe⟩
    omega
   .intro j o B Z k S;rw[u];rw[u]at Z
    by_cases ek:k=i
    .simp[ek]
    .rw[if_neg ek]
     by_cases H:j=i
     .subst H;rw[qc7 d]at B;simp only[qq]at B;subst B;exact y k S
     .rw[if_neg H]at Z;exact f j o B Z k S
   .by_cases l:x∈r.ws
    .have s1:=acc_succ rs i 0 σ r e1;simp only[qb1]at s1;rw[get_hit r.wr _ (acc (λj=>decide (j<i)) rs 0 σ) x l,<-s1];refine qw rs 0 σ σ rfl (λj q A D=>?_);rw[qb1,u]
     by_cases H:j=i
     .simp[H]
     .rw[if_neg H,wr x (.inr l) j q A D];simp;omega
    .rw[get_skip _ _ _ l];refine qw rs 0 σ σ rfl (λj q A D=>?_);rw[qb1,u]
     by_cases H:j=i
     .subst H;rw[e1]at A;simp only[qq]at A;subst A;exact absurd D l
     .rw[if_neg H]
 refine ax ops.size _ W0 ok0 β a w oe (xo (List.length_filter_le _ _) oe) ?_ ?_
 .intro i o G Z;have d:i<ops.size:=(kj.1 G).1;simp[ue,d]at Z
 .rw[acc_none]
  .exact I
  .intro j;simp only[ue,Array.getElem?_replicate];split<;>rfl
end
def exOf:Nat->Exit
 | 0=>.normal
 | 1=>.ret
 | n+2=>.exit n
def tL (P:Program) (c:Code) (Q:Exit->Act->cg->Prop) (a:Act) (w:cg):Prop :=
 ∀(b:Frame) (k:List Item) (cs:List Frame),∃e a' w',Q e a' w'/\Arrives P (lone (b.at a (.code c :: .inLoop c::k)) cs w) b k cs e a' w'
def tL.wp{P:Program}{c:Code}{Q:Exit->Act->cg->Prop}{a:Act}{w:cg}(h:tL P c Q a w):(Code.loop c).wp P Q a w :=
 λb k cs=>let ⟨e,d,w',q,r⟩:=h b k cs;⟨e,d,w',q,.of_steps (.one step_loop) r⟩
def tL.round{P:Program}{c:Code}{Q:Exit->Act->cg->Prop}{a:Act}{w:cg}(h:c.wp P (Exit.then (tL P c Q) Q) a w):tL P c Q a w:=by
 intro b k cs;have⟨e,a₁,w₁,f,d⟩:=h b (.inLoop c::k) cs
 cases e with
 | normal =>
  have⟨e₂,a₂,w₂,hq₂,harr₂⟩:=f b k cs;exact⟨e₂,a₂,w₂,hq₂,.of_steps (Steps.trans d (.one step_inLoop)) harr₂⟩
 | exit i=>exact⟨_,a₁,w₁,f,.pass (x:=.inLoop c) rfl (λ_ _=>.inl oe) d⟩
 | goto l=>exact⟨_,a₁,w₁,f,.pass (x:=.inLoop c) rfl (λ_ _=>.inl oe) d⟩
 | ret=>exact⟨_,a₁,w₁,f,.pass (x:=.inLoop c) rfl (λ_ _=>.inl oe) d⟩
 | panic g=>exact⟨_,a₁,w₁,f,.pass (x:=.inLoop c) rfl (λ_ _=>.inl oe) d⟩
 | outgrown=>exact⟨_,a₁,w₁,f,.pass (x:=.inLoop c) rfl (λ_ _=>.inl oe) d⟩
def vO [pq] (P:Program) (nt:Nat) (l:Lp):Prop:=∀(Wb:cg) (okb:br) (W0:cg) (ok0:br) (ds:List Deferred) (β:Nat->Option Nat) (a:Act) (w:cg) (Q:Exit->Act->cg->Prop),Inv Wb okb W0 ok0 ds nt β a w l.pre->(∀W1 ok1 β' a' w',Inv Wb okb W1 ok1 ds nt β' a' w' l.post->Q (exOf l.ex) a' w')->tL P l.body Q a w
section
variable {P:Program}{Wb W0:cg}{okb ok0:br}{ds:List Deferred}{nt:Nat}{T:Hints}{L:List Lp}
def get_mem:∀(S:St) (x:Loc) (v:AV),get S x=some v->(x,v)∈S
 | (k,u)::r,x,v,h=>by
  simp only[get_nil,ic]at h;split at h
  .rename_i e;simp only[qq]at h;subst e;subst h;simp
  .simp[get_mem r x v h]
noncomputable def Vf (σ:St) (k:Nat):Nat:=if Tz σ=false/\(3000000<=k/\k<4000000)/\(get σ (k - 1000000+1,0)).isSome then k - 1000000 else k
def uC{σ:St}{k:Nat}(h:k<3000000):Vf σ k=k:=if_neg (λe=>od)
def Fe[pq]{σ:St}{n k b:Nat}(h:ownB n (Vf σ k) b):ownB n k b:=by
 unfold Vf at h;split at h
 .rename_i c;have:=c.2.1;rcases h with⟨h,_⟩|⟨d,h0,f,a⟩
  .exact .inl ⟨h,.inr od⟩
  .exact .inr ⟨d,h0,λe=>od,λ_=>a od⟩
 .exact h
def aaZ(k:Nat)(h:3000001<=k+1):k+1 - 1000000=k - 1000000+1:=od
def aaG{k a:Nat}(e:k - 1000000=a)(h:3000001<=k+1)(b:k+1<=4000000):2000000<=k/\2000000<=a/\3000000<=k/\k<4000000:=od
def NF{k:Nat}(h:2000000<=k):k+1≠1000001:=od
def aaV{σ:St}{k b:Nat}(hn:Tz σ=false)(a:NS σ k=some b)(d:(get σ (k+1,0)).isSome)(f:b<4000000):Vf σ b=k:=by
 unfold NS at a;split at a
 .simp only[qq]at a;subst a;exact uC od
 .split at a
  .simp only[qq]at a;have e:b - 1000000=k:=by omega
   unfold Vf;rw[e];exact if_pos ⟨hn,od,d⟩
  .split at a
   .rename_i c;simp only[qq]at a;subst a;exact if_neg (λe=>by rw[qa6.1 c]at e;cases e.2.2)
   .cases a
def Inv.forget[pq]{β:Nat->Option Nat}{a:Act}{w:cg}{σ S:St}(h:Inv Wb okb W0 ok0 ds nt β a w σ)(hk:∀e∈S,EI σ e.1=some e.2)(hc:S.all (λe=>LB S e.2&&(e.1.1==0||(get S (e.1.1,0)).isSome)))(ad:(get σ (1000001,0)).isNone):∃β',Inv Wb okb W0 ok0 ds nt β' a w S:=by
 let β':Nat->Option Nat:=λk=>if (get S (k+1,0)).isSome then β (Vf σ k)else none
 have H:∀k b,β' k=some b->β (Vf σ k)=some b/\(get S (k+1,0)).isSome:=λk b e=>by
  simp only[β']at e;split at e
  .rename_i Q;exact⟨e,Q⟩
  .cases e
 have ar:∀{k:Nat},(get S (k+1,0)).isSome->∃v,EI σ (k+1,0)=some v/\get S (k+1,0)=some v:=λ{k} Q=>by obtain⟨v,J⟩:=qf4.1 Q;exact⟨v,hk _ (get_mem S _ v J),J⟩
 have U:∀{k:Nat},(get S (k+1,0)).isSome->Tz σ=false->2000000<=k->3000000<=k/\k<4000000:=λ{k} Q m W=>by
  obtain⟨v,J,_⟩:=ar Q;unfold EI at J;rw[m,if_neg oe,if_neg vu]at J;split at J
  .rename_i h3;simp only at h3;omega
  .cases J
 have aj:∀{k L:Nat},(get S (k+1,0)).isSome->(get S (L+1,0)).isSome->Vf σ k=Vf σ L->k=L:=λ{k L} Q aC e=>by
  unfold Vf at e;split at e<;>split at e
  .omega
  .rename_i c1 c2;have:=U aC c1.1 od;exfalso;omega
  .rename_i c1 c2;have:=U Q c2.1 od;exfalso;omega
  .exact e
 have aa:zH (okB W0.heap.size ok0 β) w (okB W0.heap.size ok0 β') w:=⟨jj _,λb P ho=>⟨by
  rcases ho with ho|ho
  .exact .inl ho
  .exact .inr ⟨ho.1,λk e=>ho.2 _ (H k b e).1⟩,λ_=>rfl⟩⟩
 have hX:∀(x M:X) (v:cm),(M=x/\Tz σ\/M=YX σ x/\Tz σ=false)->kept S M->(∀n∈x.keys,(get σ (n+1,0)).isSome)->jm β (okB W0.heap.size ok0 β) w x v->jm β' (okB W0.heap.size ok0 β') w M v:=λx M v D O F B=>by
  have same:∀k,Tz σ->Vf σ k=k:=λk m=>if_neg (λe=>by rw[m]at e;cases e.1);have ab:∀{k L:Nat},Tz σ=false->NS σ k=some L->(get σ (k+1,0)).isSome->∀b,β' L=some b->β k=some b:=λ{k L} m B Q b P=>by
   obtain⟨s,C⟩:=H L b P;have h4:L<4000000:=by
    rcases jf5 L 2000000 with h|h
    .omega
    .exact (U C m h).2
   rwa [aaV m B Q h4]at s
  cases x with
  | p k q =>
   obtain rfl:M =.p k q:=by rcases D with D|D<;>exact D.1
   obtain⟨b,s,C⟩:=B;refine⟨b,⟨?_,s.2⟩,C⟩;simp only[β'];rw[if_pos (show (get S (k+1,0)).isSome from O),uC od];exact s.1
  | d y =>
   obtain rfl:M =.d y:=by rcases D with D|D<;>exact D.1
   exact fI.keep B aa
  | c f ks =>
   obtain rfl:M =.c f ks:=by rcases D with D|D<;>exact D.1
   obtain⟨q1,q2⟩:=B;have e:∀n∈ks,β' n=β n:=λn m=>by simp only[β'];rw[if_pos (show (get S (n+1,0)).isSome from kd.1 O n m),uC (by have:=(q1 n m).2;omega)]
   refine⟨λn m=>⟨by rw[e n m];exact (q1 n m).1,(q1 n m).2⟩,?_⟩;rw[q2,List.map_congr_left];intro n m;rw[e n m]
  | e cs q =>
   obtain rfl:M =.e cs q:=by rcases D with D|D<;>exact D.1
   exact jm.kL (β:=λ_=>none) aa (λ_ _ _ e=>by cases e) (.e cs q) v (λn m=>by cases m) B
  | f n es =>
   obtain rfl:M =.f n es:=by rcases D with D|D<;>exact D.1
   exact jm.kL (β:=λ_=>none) aa (λ_ _ _ e=>by cases e) (.f n es) v (λn m=>by cases m) B
  | g k n l =>
   obtain⟨b0,c,s,C,K⟩:=B;rcases D with⟨rfl,m⟩|⟨rfl,m⟩
   .exact⟨b0,c,s,C,λb P=>K b (by have:=(H k b P).1;rwa [same k m]at this)⟩
   .simp only[YX]
    cases ae:NS σ k with
    | none=>subst s;exact fI.t _ rfl
    | some L=>exact⟨b0,c,s,C,λb P=>K b (ab m ae (F k vp) b P)⟩
  | q k o =>
   obtain⟨b0,s,K⟩:=B;rcases D with⟨rfl,m⟩|⟨rfl,m⟩
   .exact⟨b0,s,λb P=>K b (by have:=(H k b P).1;rwa [same k m]at this)⟩
   .simp only[YX]
    cases ae:NS σ k with
    | none=>subst s;exact fI.t _ rfl
    | some L=>exact⟨b0,s,λb P=>K b (ab m ae (F k vp) b P)⟩
 have hA:∀(x M:A1) (v:cm),(M=x/\Tz σ\/M=YR σ x/\Tz σ=false)->M.xs.all (kept S)->(∀n∈x.keys,(get σ (n+1,0)).isSome)->gm β (okB W0.heap.size ok0 β) w x v->gm β' (okB W0.heap.size ok0 β') w M v:=λx M v D O F B=>by
  cases x with
  | one y =>
   rcases D with⟨rfl,m⟩|⟨rfl,m⟩
   .exact hX y y v (.inl ⟨rfl,m⟩) (by simpa[A1.xs]using O) F B
   .exact hX y _ v (.inr ⟨rfl,m⟩) (by simpa[A1.xs,YR]using O) F B
  | agg ys =>
   obtain⟨vs,e,hl⟩:=B;have I:∀y∈ys,∀n∈y.keys,(get σ (n+1,0)).isSome:=λy hy n m=>F n (by simp only[A1.keys,qb2];exact⟨y,hy,m⟩);rcases D with⟨rfl,m⟩|⟨rfl,m⟩
   .refine⟨vs,e,dU.of hl.length (λi y u s C=>?_)⟩;obtain⟨u',K,V⟩:=hl.get _ _ s;rw[K]at C;simp only[qq]at C;subst C;exact hX y y _ (.inl ⟨rfl,m⟩) (kd.1 O _ (ka s)) (I y (ka s)) V
   .refine⟨vs,e,dU.of (by rw[qc3];exact hl.length) (λi y u s C=>?_)⟩;have hm:=ka s;simp only[qb0,qS]at s;obtain⟨z,s,rfl⟩:=s;obtain⟨u',K,V⟩:=hl.get _ _ s;rw[K]at C;simp only[qq]at C;subst C;exact hX z _ _ (.inr ⟨rfl,m⟩) (kd.1 O _ hm) (I z (ka s)) V
 refine⟨β',h.gr,λk b e=>⟨(h.new _ b (H k b e).1).1.imp Fe id,(h.new _ b (H k b e).1).2⟩,λk L b e e'=>aj (H k b e).2 (H L b e').2 (h.inj _ _ b (H k b e).1 (H L b e').1),λk b e=>(H k b e).2,λx v an D=>?_,h.XU,h.sz,?_,⟨λ_=>⟨(h.FK.1 (qa6.1 ad)).1,λk b e=>Fe ((h.FK.1 (qa6.1 ad)).2 _ b (H k b e).1)⟩,λv J=>?_⟩,λx v D n m=>?_,h.qQ⟩
 .have hm:=get_mem S x v D;have E:=kd.1 hc _ hm;simp only[qt,qe2]at E;have G:=hk _ hm;simp only at G
  -- a place that is no list's
  have low:∀Y,x.1<2000000->get σ x=some Y->(v=Y/\Tz σ\/v=acG σ Y/\Tz σ=false)->EH β' (okB W0.heap.size ok0 β') a w x v:=λY T h0 J=>by
   have B:=h.rep x Y an h0;have F:=h.hk x Y h0;obtain⟨k,q⟩:=x
   cases k with
   | zero =>
    obtain⟨u,s,C⟩:=B;refine⟨u,s,?_⟩
    cases Y with
    | of y =>
     rcases J with⟨rfl,m⟩|⟨rfl,m⟩
     .exact hA y y u (.inl ⟨rfl,m⟩) E.1 F C
     .exact hA y _ u (.inr ⟨rfl,m⟩) E.1 F C
    | rz ys =>
     obtain⟨vs,e,hl⟩:=C;have I:∀y∈ys,∀n∈y.keys,(get σ (n+1,0)).isSome:=λy hy n m=>F n (by simp only[AV.keys,qb2];exact⟨y,hy,m⟩);rcases J with⟨rfl,m⟩|⟨rfl,m⟩
     .refine⟨vs,e,dU.of hl.length (λi y u s C=>?_)⟩;obtain⟨u',K,V⟩:=hl.get _ _ s;rw[K]at C;simp only[qq]at C;subst C;exact hA y y _ (.inl ⟨rfl,m⟩) (kd.1 E.1 _ (ka s)) (I y (ka s)) V
     .refine⟨vs,e,dU.of (by rw[qc3];exact hl.length) (λi y u s C=>?_)⟩;have ax:=ka s;simp only[qb0,qS]at s;obtain⟨z,s,rfl⟩:=s;obtain⟨u',K,V⟩:=hl.get _ _ s;rw[K]at C;simp only[qq]at C;subst C;exact hA z _ _ (.inr ⟨rfl,m⟩) (kd.1 E.1 _ ax) (I z (ka s)) V
    | kv _ _ _=>exact C.elim
    | dead=>exact C.elim
   | succ k =>
    simp only at T
    cases Y with
    | kv el n es=>have:=B.2;obtain⟨_,_,_,P,_⟩:=this;omega
    | dead =>
     obtain rfl:v =.dead:=by rcases J with J|J<;>exact J.1
     trivial
    | rz az=>obtain⟨b,u2,y,H,W,_⟩:=B;cases W
    | of A =>
     obtain⟨b,u,y,s,C,K,V,e5⟩:=B;simp only[AV.of.injEq]at C;subst C;have Q:(get S (k+1,0)).isSome:=by simpa using E.2
     have ah:β' k=some b/\k<1000000:=⟨by simp only[β'];rw[if_pos Q,uC od];exact s.1,s.2⟩;rcases J with⟨rfl,m⟩|⟨rfl,m⟩
     .exact⟨b,u,y,ah,rfl,K,V,hX y y u (.inl ⟨rfl,m⟩) (by simpa[LB,A1.xs]using E.1) F e5⟩
     .exact⟨b,u,_,ah,rfl,K,V,hX y _ u (.inr ⟨rfl,m⟩) (by simpa[LB,acG,YR,A1.xs]using E.1) F e5⟩
  -- a list's place
  have high:∀k q R,x=(k+1,q)->Vf σ k=R->2000000<=k->2000000<=R->get σ (R+1,q)=some v->EH β' (okB W0.heap.size ok0 β') a w x v:=λk q R ex Q W h3 h0=>by
   subst ex;have B:=h.rep (R+1,q) v (λe=>by have e:R+1=1000001:=e;omega) h0
   cases v with
   | kv el n es =>
    obtain⟨rfl,hL⟩:=B;obtain⟨b,cs,c,P,B⟩:=hL;refine⟨rfl,b,cs,c,⟨?_,W⟩,B.1,B.2.1,B.2.2.1,B.2.2.2.1,B.2.2.2.2.1,B.2.2.2.2.2.1,λi r j x s C=>?_⟩
    .simp only[β'];rw[D,Q];exact P.1
    .obtain⟨u,u1,u2⟩:=B.2.2.2.2.2.2 i r j x s C;exact⟨u,u1,u2.keep aa⟩
   | dead=>trivial
   | rz az=>obtain⟨b,u2,y,H,W,_⟩:=B;cases W
   | of A=>obtain⟨b,u2,y,H,_⟩:=B;omega
  unfold EI at G;split at G
  .rename_i m;rcases jf5 x.1 2000000 with T|aO
   .exact low v T G (.inl ⟨rfl,m⟩)
   .have:=kd.1 m _ (get_mem σ x v G);simp only[jt]at this;omega
  .rename_i m;have m:Tz σ=false:=by simpa using m
   split at G
   .rename_i T;simp only[qS]at G;obtain⟨Y,h0,rfl⟩:=G;exact low Y T h0 (.inr ⟨rfl,m⟩)
   .split at G
    .rename_i h3;obtain⟨k,q⟩:=x;simp only at h3 G an
     cases k with
     | zero=>omega
     | succ k =>
      obtain⟨R,Z⟩:∃R,k - 1000000=R:=⟨_,rfl⟩;rw[aaZ k h3.1,Z]at G;have N:2000000<=k/\2000000<=R/\3000000<=k/\k<4000000:=aaG Z h3.1 h3.2;split at G
      .rename_i v2 h0;simp only[qq]at G;subst G;have hq:q=0\/v2 =.dead:=by
        have B:=h.rep (R+1,q) v2 (NF N.2.1) h0
        cases v2 with
        | kv _ _ _=>exact .inl B.1
        | dead=>exact .inr rfl
        | rz az=>obtain⟨b,u2,y,H,W,_⟩:=B;cases W
        | of A=>obtain⟨b,u2,y,H,_⟩:=B;exact absurd H.2 od
       rcases hq with rfl|rfl
       .exact high k 0 R rfl (by unfold Vf;rw[Z];exact if_pos ⟨m,N.2.2,by rw[h0];rfl⟩) N.1 N.2.1 h0
       .trivial
      .rename_i h0;have hq:q=0\/v =.dead:=by
        have B:=h.rep (k+1,q) v (NF N.1) G
        cases v with
        | kv _ _ _=>exact .inl B.1
        | dead=>exact .inr rfl
        | rz az=>obtain⟨b,u2,y,H,W,_⟩:=B;cases W
        | of A=>obtain⟨b,u2,y,H,_⟩:=B;exact absurd H.2 od
       rcases hq with rfl|rfl
       .exact high k 0 k rfl (by unfold Vf;rw[Z];exact if_neg (λe=>by rw[h0]at e;cases e.2.2)) N.1 N.1 G
       .trivial
    .cases G
 .simp only[β'];split
  .rw[uC od];exact h.nk
  .rfl
 .have G:=hk _ (get_mem S _ v J);unfold EI at G;rw[qa6.1 ad]at G;split at G
  .cases G
  .rw[if_pos oe]at G;cases G
 .have E:=kd.1 hc _ (get_mem S x v D);simp only[qt]at E;have aq:∀(A:A1),A.xs.all (kept S)->n∈A.keys->(get S (n+1,0)).isSome:=λA hA m=>by
   have : ∃y∈A.xs,n∈y.keys:=by
    cases A with
    | one y=>exact⟨y,by simp[A1.xs],m⟩
    | agg ys=>simp only[A1.keys,qb2]at m;exact m
   obtain⟨y,hy,m⟩:=this;have ak:=kd.1 hA y hy
   cases y with
   | g k _ _=>simp only[X.keys,qv]at m;subst m;exact ak
   | q k _=>simp only[X.keys,qv]at m;subst m;exact ak
   | _=>cases m
  cases v with
  | of A=>exact aq A E.1 m
  | rz az =>
   simp only[AV.keys,qb2]at m;obtain⟨A,hA,m⟩:=m;exact aq A (kd.1 E.1 A hA) m
  | _=>cases m
def rG[pq](R:∀l∈L,vO P nt l)(hm:P.follows .mixedOrders)(c:Code):∀(C:List Sp) (σ:St) (e:Nat) (σ':St) (C':List Sp) (ob:Obl),Dt P T L nt c C σ=some (e,σ',C',ob)->(∀s∈C,Holds P s)->(∀p∈ob,p.2) ->
 (∀s∈C',s∈C)/\∀(W0:cg) (ok0:br) (β:Nat->Option Nat) (a:Act) (w:cg) (Q:Exit->Act->cg->Prop),Inv Wb okb W0 ok0 ds nt β a w σ->(∀q j β' a' w',Inv Wb okb q j ds nt β' a' w' σ'->Q (exOf e) a' w')->c.wp P Q a w:=by
 induction c with
 | skip =>
  intro C σ e σ' C' ob h g b;simp only[Dt,qq,ju]at h;obtain⟨rfl,rfl,rfl,rfl⟩:=h;exact⟨λ_ h=>h,λW0 ok0 β a w Q d f=>wp_skip (f W0 ok0 β a w d)⟩
 | region J ops u =>
  intro C σ e σ' C' ob h g b;simp only[Dt]at h;split at h<;>try (cases h;done)
  rename_i σ2 K z rs G;split at h<;>try (cases h;done)
  rename_i V;simp only[qq,ju]at h;obtain⟨rfl,rfl,rfl,rfl⟩:=h;refine⟨(evR_at _ _ _ _ _ _ _ G).1,λW0 ok0 β a w Q d f=>?_⟩
  cases u with
  | false=>exact wp_region (Ou d G g b f)
  | true=>exact wp_region_any hm (M5 d.drew G (by simpa using V) g b f)
 | seq x y m r =>
  intro C σ e σ' C' ob h g b;simp only[Dt]at h;split at h
  .rename_i σ1 C1 Y O;split at h<;>try (cases h;done)
   rename_i M σ2 K z A;simp only[qq,ju]at h;obtain⟨rfl,rfl,rfl,rfl⟩:=h;have⟨k,o⟩:=m _ _ _ _ _ _ O g (λp F=>b p (by simp[F]));have⟨Z,X⟩:=r _ _ _ _ _ _ A (λs H=>g s (k s H)) (λp F=>b p (by simp[F]));exact⟨λs H=>k s (Z s H),λW0 ok0 β a w Q d f=>wp_seq (o W0 ok0 β a w _ d (λq j β' a' w' i=>X q j β' a' w' Q i f))⟩
  .rename_i E;have⟨k,o⟩:=m _ _ _ _ _ _ h g b;refine⟨k,λW0 ok0 β a w Q d f=>wp_seq (o W0 ok0 β a w _ d (λq j β' a' w' i=>?_))⟩;have:=f q j β' a' w' i
   match e,h,this with
   | 0,h,_=>exact absurd h (E _ _ _)
   | 1,_,t=>exact t
   | n+2,_,t=>exact t
 | cond c x y m r =>
  intro C σ e σ' C' ob h g b;simp only[Dt]at h;split at h<;>try (cases h;done)
  .rename_i hc;have⟨k,o⟩:=m _ _ _ _ _ _ h g b;exact⟨k,λW0 ok0 β a w Q d f=>wp_cond_true (bW (ET hc (λt _ v I=>d.rep _ _ oe I))) (o W0 ok0 β a w Q d f)⟩
  .rename_i hc;have⟨k,o⟩:=r _ _ _ _ _ _ h g b;exact⟨k,λW0 ok0 β a w Q d f=>wp_cond_false (bW (ET hc (λt _ v I=>d.rep _ _ oe I))) (o W0 ok0 β a w Q d f)⟩
 | block J c N =>
  intro C σ e σ' C' ob h g b;simp only[Dt]at h;split at h<;>try (cases h;done)
  rename_i M σ2 K z A;simp only[qq,ju]at h;obtain⟨rfl,rfl,rfl,rfl⟩:=h;have⟨k,o⟩:=N _ _ _ _ _ _ A g b;refine⟨k,λW0 ok0 β a w Q d f=>wp_block (o W0 ok0 β a w _ d (λq j β' a' w' i=>?_))⟩;have:=f q j β' a' w' i
  match M,this with
  | 0,t=>exact (by simpa using t:Q (exOf 0) a' w')
  | 1,t=>exact (by simpa using t:Q (exOf 1) a' w')
  | n+2,t =>
   simp only[exOf,Exit.inBlock]
   by_cases D:n=J
   .subst D;simpa[exOf]using t
   .rw[if_neg D];simpa[D,exOf]using t
 | exit J =>
  intro C σ e σ' C' ob h g b;simp only[Dt,qq,ju]at h;obtain⟨rfl,rfl,rfl,rfl⟩:=h;exact⟨λ_ h=>h,λW0 ok0 β a w Q d f=>wp_exit (f W0 ok0 β a w d)⟩
 | ret =>
  intro C σ e σ' C' ob h g b;simp only[Dt,qq,ju]at h;obtain⟨rfl,rfl,rfl,rfl⟩:=h;exact⟨λ_ h=>h,λW0 ok0 β a w Q d f=>wp_ret (f W0 ok0 β a w d)⟩
 | loop c N =>
  intro C σ e σ' C' ob h g b;simp only[Dt]at h;split at h<;>try (cases h;done)
  rename_i l B;split at h<;>try (cases h;done)
  rename_i hc;simp only[qq,ju]at h;obtain⟨rfl,rfl,rfl,rfl⟩:=h;refine⟨λ_ h=>h,λW0 ok0 β a w Q d f=>?_⟩;have U:l.body=c:=b (true,_) (je7 ..);have⟨β',i⟩:=d.forget (S:=l.pre) (λe W=>b (true,_) (by simp only[kl,known,kB];exact .inr ⟨e,W,rfl⟩)) hc.1 hc.2;have:=(R l (List.mem_of_find?_eq_some B) Wb okb W0 ok0 ds β' a w Q i f).wp;rwa [U]at this
 | _=>intro C σ e σ' C' ob h;simp[Dt]at h
def qU[pq]{β:Nat->Option Nat}{a:Act}{w:cg}{σ:St}{r:ResultVar}{A:A1}(l:Inv Wb okb W0 ok0 ds nt β a w σ)(g:ResultVar->Sem cm)(g1:∀t,g (.tmp t)=pure (a.tmps.getD t undef))(g2:∀x t,g (.cell x t)=do loadVar t (<-asAddr (a.tmps.getD x undef)))(h:Ie P σ r=some A) :
 ∃u,(g r).run P w =.ok u w/\gm β (okB W0.heap.size ok0 β) w A u:=by
 unfold Ie at h;split at h
 .rename_i t;split at h<;>try (cases h;done)
  rename_i F e;simp only[qq]at h;subst h;have⟨u,c,f⟩:=l.rep _ _ oe e;exact⟨u,by rw[g1];simp[ue,c],f⟩
 .rename_i x t;split at h<;>try (cases h;done)
  rename_i k q d i e B s;split at h<;>try (cases h;done)
  split at h<;>try (cases h;done)
  rename_i v m;simp only[qq]at h;subst h;have⟨H,c,f⟩:=qf1.1 m;obtain⟨u,o,b,p,rfl⟩:=l.rep _ _ oe e;have⟨y,G,n,hc⟩:=EL l p c (λ_ _=>rfl);have⟨z,C,D,E⟩:=E9 f n;have:=uJ (P:=P) (w:=w) (b:=b) (q:=q) B s (n.length.trans (mJ _ _ _ c).1) (λj v m=>(hc j v m).1) D E;exact⟨z,by rw[g2];simp[ue,o,asAddr,this],C⟩
def qc[pq]{β:Nat->Option Nat}{a:Act}{w:cg}{σ:St}{H:Hp}{β':Nat->Option Nat}{okS:br}{r:ResultVar}{A:A1×Obl}(d:Inv Wb okb W0 ok0 ds nt β a w σ)(o:∀b,okB W0.heap.size ok0 β b->okS b)(q:∀k b,2000000<=k->H.lk k=false->β k=some b->okS b)(E:∀x v,H.holds x->jm β (okB W0.heap.size ok0 β) w x v->jm β' okS w x v)
 (g:ResultVar->Sem cm) (g1:∀t,g (.tmp t)=pure (a.tmps.getD t undef)) (g2:∀x t,g (.cell x t)=do loadVar t (<-asAddr (a.tmps.getD x undef))) (h:E5 H P σ r=some A) (hob:∀p∈A.2,p.2) :
 ∃u,(g r).run P w =.ok u w/\gm β' okS w A.1 u:=by
 unfold E5 at h;split at h<;>try (cases h;done)
 rename_i B s;have⟨u,m,i⟩:=qU d g g1 g2 s;split at h
 .rename_i z;simp only[qq]at h;subst h;exact⟨u,m,gm.part E _ _ z i⟩
 split at h<;>try (cases h;done)
 rename_i D;simp only[qS]at h;obtain⟨C,c,rfl⟩:=h;have f:=(zA d (okS:=λ_=>True) (λ_ _=>trivial) (λ_ _ _ _=>trivial) c hob (λ_ _=>rfl) i).2;have F:=(zA d o (λk j b y=>q k b (f k j) (by simpa using kd.1 D k j) y) c hob (λ_ _=>rfl) i).1;exact⟨u,m,gm.kL ⟨jj _,λb _ h=>⟨h,λ_=>rfl⟩⟩ (λ_ _ _ e=>by cases e) _ _ (λn l=>by rw[xh c]at l;cases l) F⟩
def Uf[pq]{E:Func}{β:Nat->Option Nat}{a:Act}{w:cg}{σ:St}{v:AV×Obl}{H:Hp}{β':Nat->Option Nat}{okS:br}(f:Inv Wb okb W0 ok0 ds nt β a w σ)(i:∀b,okB W0.heap.size ok0 β b->okS b)(j:∀k b,2000000<=k->H.lk k=false->β k=some b->okS b)(l:∀x v,H.holds x->jm β (okB W0.heap.size ok0 β) w x v->jm β' okS w x v)(g:ResultVar->Sem cm)(g1:∀t,g (.tmp t)=pure (a.tmps.getD t undef))(g2:∀x t,g (.cell x t)=do loadVar t (<-asAddr (a.tmps.getD x undef)))(h:KD H P σ E.results.toList=some v)(c:∀p∈v.2,p.2) :
 ∃u,(do let vs <-E.results.mapM g;pure (if h:vs.size=1 then vs[0]else .tuple vs):Sem cm).run P w =.ok u w/\iZ β' okS w v.1 u:=by
 rw[qc2,Array.mapM_eq_mapM_toList,Sem.run_map];unfold KD at h;split at h<;>try (cases h;done)
 .rename_i e;simp only[qq]at h;subst h;refine⟨.tuple #[],?_,[],rfl,trivial⟩;rw[e];simp[Result.andThen]
 .rename_i r e;simp only[qS]at h;obtain⟨A,h,rfl⟩:=h;have⟨u,m,n⟩:=qc f i j l g g1 g2 h c;refine⟨u,?_,n⟩;rw[e,jf0,qc2];rw[m];simp[Result.andThen]
 .rename_i r s e;split at h<;>try (cases h;done)
  rename_i A B z D;simp only[qq]at h;subst h;have⟨u,m,n⟩:=qc f i j l g g1 g2 z (λp d=>c p (by simp[d]));have⟨o,q,y⟩:=qc f i j l g g1 g2 D (λp d=>c p (by simp[d]));refine⟨.tuple #[u,o],?_,[u,o],rfl,n,y,trivial⟩;rw[e,jf0,qc2];rw[m];simp only[Result.andThen];rw[qc2,jf0,qc2];rw[q];simp[Result.andThen]
 .rename_i r s t e;split at h<;>try (cases h;done)
  rename_i A B C z D I;simp only[qq]at h;subst h;have⟨u,m,n⟩:=qc f i j l g g1 g2 z (λp d=>c p (by simp[d]));have⟨o,q,y⟩:=qc f i j l g g1 g2 D (λp d=>c p (by simp[d]));have⟨u2,F,G⟩:=qc f i j l g g1 g2 I (λp d=>c p (by simp[d]));refine⟨.tuple #[u,o,u2],?_,[u,o,u2],rfl,n,y,G,trivial⟩;rw[e,jf0,qc2];rw[m];simp only[Result.andThen];rw[qc2,jf0,qc2];rw[q];simp only[Result.andThen];rw[qc2,jf0,qc2];rw[F];simp[Result.andThen]
def KI[pq]{d:Func}{β:Nat->Option Nat}{a:Act}{w:cg}{σ:St}{v:AV×Obl}{H:Hp}{β':Nat->Option Nat}{okS:br}(e:Inv Wb okb W0 ok0 ds nt β a w σ)(f:∀b,okB W0.heap.size ok0 β b->okS b)(g:∀k b,2000000<=k->H.lk k=false->β k=some b->okS b)(i:∀x v,H.holds x->jm β (okB W0.heap.size ok0 β) w x v->jm β' okS w x v)(h:KD H P σ d.results.toList=some v)(c:∀p∈v.2,p.2) :
 ∃u,(results d a.tmps).run P w =.ok u w/\iZ β' okS w v.1 u:=Uf e f g i _ (λ_=>rfl) (λ_ _=>rfl) h c
def Ig[pq]{fn:Func}{β:Nat->Option Nat}{a:Act}{w:cg}{σ:St}{v:AV×Obl}(i:Inv Wb okb W0 ok0 ds nt β a w σ)(c:∀b,¬bs b)(h:KD {} P σ fn.results.toList=some v)(f:∀p∈v.2,p.2) :
 ∃u,(results fn a.tmps).run P w =.ok u w/\iZ (λ_=>none) (λb=>(b<W0.heap.size/\ok0 b)\/W0.heap.size<=b) w v.1 u:=by
 have g:∀b,okB W0.heap.size ok0 β b->(b<W0.heap.size/\ok0 b)\/W0.heap.size<=b:=λb d=>d.imp id (λh=>h.1.resolve_right (c b));refine KI i g (λk b hk _ d=>?_) (QC g) h f;rcases jf5 b W0.heap.size with e|e
 .exact .inl ⟨e,(i.new k b d).1.resolve_left (λh=>by
   rcases nT h with h|h
   .omega
   .exact c b h)⟩
 .exact .inr e
def GI{σ:St}{H:Hp}{rs:List ResultVar}{v:AV×Obl}(h:KD H P σ rs=some v):v.1.keys.all H.lk:=by
 have a:∀{r:ResultVar} {A:A1×Obl},E5 H P σ r=some A->A.1.keys.all H.lk:=λ{r A} h=>by
  unfold E5 at h;split at h<;>try (cases h;done)
  split at h
  .rename_i B _ i;simp only[qq]at h;subst h;refine kd.2 λn b=>?_;have : ∃y∈B.xs,n∈y.keys:=by
    cases B with
    | one y=>exact⟨y,by simp[A1.xs],b⟩
    | agg l=>simp only[A1.keys,qb2]at b;exact b
   have⟨y,j,b⟩:=this;have c:=kd.1 i y j
   cases y with
   | g k _ _=>simp only[X.keys,qv]at b;subst b;exact c
   | q k _=>simp only[X.keys,qv]at b;subst b;exact c
   | _=>cases b
  .split at h<;>try (cases h;done)
   simp only[qS]at h;obtain⟨C,f,rfl⟩:=h;show C.keys.all _;rw[xh f];rfl
 unfold KD at h;split at h<;>try (cases h;done)
 .simp only[qq]at h;subst h;rfl
 .simp only[qS]at h;obtain⟨A,h,rfl⟩:=h;exact a h
 .split at h<;>try (cases h;done)
  rename_i d e;simp only[qq]at h;subst h;simp only[AV.keys,qd5,jh1,qc4,jc7,a d,a e,Bool.and_self]
 .split at h<;>try (cases h;done)
  rename_i d e f;simp only[qq]at h;subst h;simp only[AV.keys,qd5,jh1,qc4,jc7,a d,a e,a f,Bool.and_self]
def all_none{l:List Nat}(h:l.all (Hp.lk {})):l=[]:=by
 cases l with
 | nil=>rfl
 | cons k l=>simp[Hp.lk]at h
def Uc{σ:St}{rs:List ResultVar}{v:AV×Obl}(h:NT P σ rs=some v):v.1.keys=[]:=by
 unfold NT at h
 repeat' (split at h<;>try (cases h;done))
 simp only[qq]at h;subst h;rfl
def Ud[pq]{fn:Func}{β:Nat->Option Nat}{a:Act}{w:cg}{σ:St}{v:AV×Obl}(K:Inv Wb okb W0 ok0 ds nt β a w σ)(g:ResultVar->Sem cm)(g1:∀t,g (.tmp t)=pure (a.tmps.getD t undef))(g2:∀x t,g (.cell x t)=do loadVar t (<-asAddr (a.tmps.getD x undef)))(G:∀b,¬bs b)(o:∀k b,β k=some b->W0.heap.size<=b)(h:NT P σ fn.results.toList=some v)(H:∀p∈v.2,p.2) :
 ∃e n es u,v.1 =.kv e n es/\(do let vs <-fn.results.mapM g;pure (if h:vs.size=1 then vs[0]else .tuple vs):Sem cm).run P w =.ok u w/\Jh ok0 W0 w e n es u:=by
 rw[qc2,Array.mapM_eq_mapM_toList,Sem.run_map];unfold NT at h;split at h<;>try (cases h;done)
 rename_i r X;split at h<;>try (cases h;done)
 rename_i k n l R;split at h<;>try (cases h;done)
 rename_i e m es V;split at h<;>try (cases h;done)
 rename_i hc;obtain⟨rfl,D⟩:=hc;simp only[qq]at h;subst h;have⟨u,N,O⟩:=qU K g g1 g2 R;obtain⟨b0,c,rfl,E,Q⟩:=O;have F:l=es.length:=H (true,_) (qv.2 rfl);subst F;have S:=(K.rep (k+1,0) _ (NF D) V).2;have⟨b,cs,J,A,f,s,C,B,W,y,q⟩:=S;obtain⟨rfl,L,z⟩:=Q b A.1;have U:L=e/\c*m=J*m:=by simp only[Zp,f,qq,ju]at z;exact⟨z.2.symm,by rw[<-s];exact z.1.symm⟩
 obtain⟨rfl,T⟩:=U;refine⟨_,_,_,.o b es.length c,rfl,?_,b,c,rfl,o k b A.1,E,z,b,cs,J,⟨rfl,jj _⟩,f,s,C,B,W,y,λi r j x Y Z=>?_⟩
 .rw[X,jf0,qc2];rw[N];simp[Result.andThen]
 .have⟨u,u1,u2⟩:=q i r j x Y Z;refine⟨u,u1,u2.keep ⟨jj _,λI _ d=>⟨⟨?_,λM=>?_⟩,λ_=>rfl⟩⟩⟩
  .rcases d with d|d
   .exact .inl d.2
   .exact .inr (d.1.resolve_right (G I))
  .subst M;rcases d with d|d
   .have:=o k I A.1;omega
   .exact d.2 k A.1
def YY[pq]{g:Func}{β:Nat->Option Nat}{a:Act}{w:cg}{σ:St}{v:AV×Obl}(i:Inv Wb okb W0 ok0 ds nt β a w σ)(d:∀b,¬bs b)(c:∀k b,β k=some b->W0.heap.size<=b)(h:NT P σ g.results.toList=some v)(f:∀p∈v.2,p.2) :
 ∃e n es u,v.1 =.kv e n es/\(results g a.tmps).run P w =.ok u w/\Jh ok0 W0 w e n es u:=Ud i _ (λ_=>rfl) (λ_ _=>rfl) d c h f
end
noncomputable def closed (S:St):Bool:=S.all (λe=>LB S e.2&&(e.1.1==0||(get S (e.1.1,0)).isSome))
def loopOf:Code->Option Code
 | .loop c=>some c
 | .seq a b=>(loopOf a).orElse λ_=>loopOf b
 | .cond _ a b=>(loopOf a).orElse λ_=>loopOf b
 | .block _ c=>loopOf c
 | .scope c=>loopOf c
 | _=>none
def loopsOf:Code->List Code
 | .loop c=>c::loopsOf c
 | .seq a b=>loopsOf a++loopsOf b
 | .cond _ a b=>loopsOf a++loopsOf b
 | .block _ c=>loopsOf c
 | .scope c=>loopsOf c
 | _=>[]
def Un[pq]{P:Program}(hm:P.follows .mixedOrders){nt:Nat}{body:Code}{pre post:St}{T:Hints}{C g:List Sp}{σ':St}{e:Nat}{ob:Obl}{L:List Lp}(o:∀l∈L,vO P nt l)(r:Dt P T L nt body C pre=some (e+1,σ',g,ob))(k:∀s∈C,Holds P s)(d:∀p∈ob,p.2)(hk:∀x∈post,EI σ' x.1=some x.2)(hc:closed post)(c:(get σ' (1000001,0)).isNone):vO P nt ⟨body,pre,e+1,post⟩:=λWb okb W0 ok0 ds β a w Q m q=>by
 refine tL.round ((rG o hm body _ _ _ _ _ _ r k d).2 W0 ok0 β a w _ m (λh f β' i w' b=>?_));have⟨β2,j⟩:=b.forget hk hc c;have:=q h f β2 i w' j
 cases e with
 | zero=>exact this
 | succ n=>exact this
def Uo[pq]{P:Program}(hm:P.follows .mixedOrders){nt:Nat}{b:Code}{pre pre2 c:St}{T:Hints}{C h:List Sp}{σ':St}{ex:Nat}{ob:Obl}{L:List Lp}(o:∀l∈L,vO P nt l)(r:Dt P T L nt b C pre=some (0,σ',h,ob))(m:∀s∈C,Holds P s)(f:∀p∈ob,p.2)(hk:∀x∈pre2,EI σ' x.1=some x.2)(hc:closed pre2)(e:(get σ' (1000001,0)).isNone)(t:vO P nt ⟨b,pre2,ex,c⟩):vO P nt ⟨b,pre,ex,c⟩:=λWb okb W0 ok0 ds β a w Q n q=>by refine tL.round ((rG o hm b _ _ _ _ _ _ r m f).2 W0 ok0 β a w _ n (λi g β' j w' d=>?_));have⟨β2,k⟩:=d.forget hk hc e;exact t Wb okb i g ds β2 j w' Q k q
def argsS_get:∀(az:List A1) (i:Nat) (x:Loc) (v:AV),get (argsS i az) x=some v->∃j A,x=(0,i+j)/\az[j]?=some A/\v =.of A
 | a::r,i,x,v,h=>by
  simp only[argsS,get_nil,ic]at h;split at h
  .rename_i e;simp only[qq]at h;exact⟨0,a,e.symm,rfl,h.symm⟩
  .have⟨j,A,b,c,d⟩:=argsS_get r (i+1) x v h;exact⟨j+1,A,by rw[b];simp;omega,by simpa using c,d⟩
def De(az:List A1)(i q:Nat):get (argsS i az) (1000001,q)=none:=by
 cases h:get (argsS i az) (1000001,q)with
 | none=>rfl
 | some v =>
  have⟨j,A,e,_⟩:=argsS_get _ _ _ _ h;simp at e
def holds[pq]{P:Program}(hm:P.follows .mixedOrders){f:FuncId}{fn:Func}{body:Code}(hf:P.funcs[f]?=some fn)(hb:fn.body=some body)(hn:(fn.name == "runtime.NumGoroutine")=false)(B:Mv)(fr:Fr)(ab:fr.b->B.p=none)
 (T:Hints) (L:List Lp) (C:List Sp) {args:List A1} {res:AV} (hC:∀s∈C,Holds P s) (hL:∀l∈L,vO P fn.ntmps l) {ob:Obl}
 (h:Wd B.p fr.b P fn body T L C args=some (res,[],ob)) (hob:∀p∈ob,p.2) (hrb:∀k,pq.h0 k=none:=by exact λ_=>rfl):Holds P (@Sp.mk f args res B fr bl0):=by
 unfold Wd at h;split at h<;>try (cases h;done)
 rename_i Q;split at h<;>try (cases h;done)
 rename_i e σ C' ax he;split at h<;>try (cases h;done)
 rename_i M;split at h<;>try (cases h;done)
 rename_i z g;simp only[qq,ju]at h;obtain⟨rfl,rfl,rfl⟩:=h;have O:∀p∈ax,p.2:=λp V=>hob p (by simp[V]);have I:∀p∈z.2,p.2:=λp V=>hob p (by simp[V]);have c:∀b,¬bs b:=λb ⟨k,e⟩=>by rw[hrb]at e;cases e
 have ak:∀{W0 w:cg} {ok0:br},Hnd W0 ok0 w:=⟨λb h=>absurd h (c b),λk b _ e=>absurd ⟨k,e⟩ (c b),λk k' b e=>absurd ⟨k,e⟩ (c b)⟩;have H:z.1.keys=[]:=by
  split at g
  .exact Uc g
  .exact all_none (GI g)
 have Z:∀(Wb:cg) (okb:br) (W0:cg) (ok0 ok:br) (w:cg) (o:bo),cq W0 w none->lU Wb okb W0 ok0 (λ_=>none) (verS B.p++argsS 0 args)->(∀b,ok b->b<w.heap.size->(b<W0.heap.size/\ok0 b)\/W0.heap.size<=b)->dU (gm (λ_=>none) ok w) args o ->
  Inv Wb okb W0 ok0 [] fn.ntmps (λ_=>none) ⟨o.toArray++Array.replicate (fn.ntmps - o.toArray.size) undef,[]⟩ w (verS B.p++argsS 0 args):=λWb okb W0 ok0 ok w o hg ad ar d=>by
  have hl:o.length=args.length:=d.length;have ah:=kd.1 Q.1;have aq:∀A∈args,A.keys=[]:=λA hA=>by
   have ae:∀x∈A.xs,x.keys=[]:=λx r=>by have:=kd.1 (ah A hA) x r;cases x<;>first|rfl|cases this
   cases A with
   | one x=>exact ae x (by simp[A1.xs])
   | agg xs=>simp only[A1.keys,List.flatMap_eq_nil_iff];exact ae
  refine⟨Gw.of hg,oe,oe,oe,λx v an r=>?_,rfl,?_,rfl,ad,λx v r n hn=>?_,ak⟩
  .rw[get_skip _ _ _ (λhm=>an (by revert hm;cases B.p with|none=>simp[verS]|some p=>simp only[verS,qc0,qh5,qv];rintro rfl;rfl))]at r;obtain⟨j,A,rfl,e2,rfl⟩:=argsS_get _ _ _ _ r;have⟨u,e3,e4⟩:=d.get _ _ e2;have hj:j<o.length:=(qT.1 e3).1;refine⟨u,?_,gm.keep ⟨jj _,λb hb ho=>⟨(ar b ho hb).imp id (λh=>⟨.inl h,oe⟩),λ_=>rfl⟩⟩ (λ_ _ h=>h) _ _ e4⟩;rw[qb1,Array.getElem?_append_left (by simpa using hj)];simpa using e3
  .simp only[Array.size_append,jd6,Array.size_replicate];omega
  .rcases get_append _ _ _ _ r with r|⟨r,_⟩
   .cases V:B.p with
    | none=>rw[V]at r;cases r
    | some p=>rw[V]at r;simp only[verS,qv,ju]at r;obtain⟨_,rfl⟩:=r;cases hn
   .obtain⟨j,A,rfl,e2,rfl⟩:=argsS_get _ _ _ _ r;have hn:n∈A.keys:=hn;rw[aq A (ka e2)]at hn;cases hn
 have K:B.p=none->∀(ok:br) (w:cg) (o:bo) {R:Ending->cg->Prop},dU (gm (λ_=>none) ok w) args o->(∀(β':Nat->Option Nat) (D:Act) (w':cg),Inv w ok w ok [] fn.ntmps β' D w' σ->(∀k b,β' k=some b->w.heap.size<=b)->∃v,(results fn D.tmps).run P w' =.ok v w'/\R (.returned v) w')->Calls P f o.toArray w R:=λa ok w o R d Y=>by
  have⟨_,k⟩:=rG (Wb:=w) (okb:=ok) (ds:=[]) hL hm body _ _ _ _ _ _ he hC O;refine calls_of_wp hf hb (k w ok (λ_=>none) _ w _ (Z w ok w ok ok w o ⟨rfl,rfl,rfl,jj _,λ_ _ _=>rfl⟩ ?_ (λb t F=>.inl ⟨F,t⟩) d) ?_)
  .rw[a];refine⟨λ_=>⟨⟨rfl,rfl⟩,oe⟩,λv g=>?_⟩;rw[show verS none++argsS 0 args=argsS 0 args from rfl,De]at g;cases g
  .intro W1 J β' D w' q;have m:get σ (1000001,0)=none:=by have:=M.2;rw[a]at this;exact qa6.1 this
   obtain⟨⟨rfl,rfl⟩,N⟩:=q.FK.1 m;have⟨v,t,F⟩:=Y β' D w' q (λk b h=>(nT (N k b h)).resolve_right (c b));have E:D.defers=[]/\∃v,(results fn D.tmps).run P w' =.ok v w'/\R (.returned v) w':=⟨q.XU,v,t,F⟩
   match e,M.1 with
   | 0,_=>exact E
   | 1,_=>exact E
 have hF:fr.b->VY P f args z.1:=λy=>by
  have a:=ab y;rw[if_pos y]at g
  cases U:z.1 with
  | kv el n es =>
   intro ok w o d;refine K a ok w o d λβ' D w' q N=>?_;have⟨e2,n2,aC,u,t,F,h3⟩:=YY q c N g I;rw[U]at t;simp only[AV.kv.injEq]at t;obtain⟨rfl,rfl,rfl⟩:=t;exact⟨u,F,(q.gr.grown c),u,rfl,h3⟩
  | _ =>
   unfold NT at g
   repeat' (split at g<;>try (cases g;done))
   simp only[qq]at g;rw[<-g]at U;cases U
 have hA:¬fr.b->B.p=none->Tx P f args z.1:=λy a ok w o d=>by rw[if_neg y]at g;refine K a ok w o d λβ' D w' q N=>?_;have⟨u,t,F⟩:=Ig q c g I;refine⟨u,t,(q.gr.grown c),u,rfl,iZ.oG ⟨jj _,λb hb ho=>⟨?_,λ_=>rfl⟩⟩ H F⟩;exact ho.imp (·.2) id
 have hB:∀i j,B.p=some (i,j)->Tw P f args z.1 i j:=?_
 .refine⟨⟨λaz w=>?_,by show z.1.keys.all _;rw[H];rfl⟩,?_⟩
  rotate_left
  .show (match B.p with|none=>(match fr.b with|true=>VY P f args z.1|false=>Tx P f args z.1)|some (i,j)=>Tw P f args z.1 i j)
   cases a:B.p with
   | none =>
    show (match fr.b with|true=>VY P f args z.1|false=>Tx P f args z.1)
    cases X:fr.b with
    | true=>exact hF X
    | false=>exact hA (by simp[X]) a
   | some p=>exact hB p.1 p.2 a
  have aj:¬fn.name = "runtime.NumGoroutine":=by simpa using hn
  simp[callFunc,hf,aj,hb,Result.andThen]
 .intro i j a ok w o hG d;have y:¬fr.b:=λh=>by rw[ab h]at a;cases a
  rw[if_neg y]at g;have⟨_,k⟩:=rG (Wb:=w) (okb:=ok) (ds:=[]) hL hm body _ _ _ _ _ _ he hC O;refine calls_of_wp hf hb (k w ok (λ_=>none) _ w _ (Z w ok w ok ok w o ⟨rfl,rfl,rfl,jj _,λ_ _ _=>rfl⟩ ?_ (λb t F=>.inl ⟨F,t⟩) d) ?_)
  .rw[a];refine⟨λh=>by simp[verS,get_nil,ic]at h,λv g=>?_⟩;simp only[verS,qd2,qe5,get_nil,ic,if_pos,qq]at g;refine⟨i,g.symm,hG,⟨jj _,λb _ h=>⟨h,rfl⟩⟩,λk v' hk=>?_⟩;rw[get_skip _ _ _ (by simp[verS]),De]at hk;cases hk
  .intro W1 J β' D w' q;have⟨u,t,F⟩:=Ig q c g I;have m:=M.2;rw[a]at m;simp only[verE]at m
   cases S:get σ (1000001,0)with
   | none=>rw[S]at m;simp[verN]at m
   | some vv =>
    obtain⟨j',rfl,g1,gf,_⟩:=q.FK.2 vv S;have ej:j'=j:=by rw[S]at m;simpa[verN,Aj]using m
    subst ej;have aa:cq W1 w' none:=q.gr.grown c;have E:D.defers=[]/\∃v,(results fn D.tmps).run P w' =.ok v w'/\(w.heap.size<=w'.heap.size/\∃J:br,pq.G j' w' J/\(∀b,b<w.heap.size->ok b->J b/\w'.heap[b]?=w.heap[b]?)/\∃v2,Ending.returned v =.returned v2/\iZ (λ_=>none) J w' z.1 v2):=by refine⟨q.XU,u,t,xo gf.1 q.gr.size,_,pq.grow _ _ _ _ g1 aa,λb hb hk=>?_,u,rfl,F⟩;have⟨c1,c2⟩:=gf.2 b hb hk;have W:=kh hb gf.1;exact⟨.inl ⟨W,c1⟩,(aa.block b W oe).trans c2⟩
    match e,M.1 with
    | 0,_=>exact E
    | 1,_=>exact E
abbrev qh (β:Nat->Option Nat):pq where
 G _ _ _:=False
 grow _ _ _ _ h _:=h
 h0:=β
 no _ _ _ _ h:=h
def argsS_mem:∀(az:List A1) (i:Nat) (x:Loc) (v:AV),(x,v)∈argsS i az->∃j A,x=(0,i+j)/\az[j]?=some A/\v =.of A
 | [],i,x,v,h=>by cases h
 | A::az,i,x,v,h=>by
  rcases kl.1 h with h|h
  .simp only[ju]at h;exact⟨0,A,by rw[h.1,qf3],rfl,h.2⟩
  .have⟨j,B,a,b,c⟩:=argsS_mem az (i+1) x v h;exact⟨j+1,B,by rw[a];congr 1;omega,by simpa using b,c⟩
def acj{P:Program}(hm:P.follows .mixedOrders){f:FuncId}{fn:Func}{body:Code}(hf:P.funcs[f]?=some fn)(hb:fn.body=some body)(hn:(fn.name == "runtime.NumGoroutine")=false)
 (T:Hints) (L:List Lp) (C:List Sp) {args:List A1} {res:AV} {H0 H1:Hp} (hno:(@Sp.mk f args res mv0 fr0 ⟨H0,H1⟩).no=false) (hC:∀s∈C,@Holds res0 P s) (hL:∀β,∀l∈L,@vO (qh β) P fn.ntmps l) {ob:Obl}
 (h:evX P fn body T L C args H0 H1=some (res,(H1.bx.map (λe=>some e.2),H1.ls.map (λe=>some e.2)),[],ob)) (hob:∀p∈ob,p.2):Holds P (@Sp.mk f args res mv0 fr0 ⟨H0,H1⟩):=by
 unfold evX at h;split at h<;>try (cases h;done)
 rename_i Q;have⟨⟨bc,⟨ax,aC⟩,ar⟩,ck,bb,bl⟩:=Q;split at h<;>try (cases h;done)
 rename_i e σ C' cb B;split at h<;>try (cases h;done)
 rename_i ae;split at h<;>try (cases h;done)
 rename_i vr hv;simp only[qq,ju]at h;obtain⟨rfl,⟨eb,el⟩,rfl,rfl⟩:=h;have m:=Hp.is ax;have X:=Hp.is aC;have aj:∀p∈cb,p.2:=λp Y=>hob p (by simp[Y]);have ak:∀p∈vr.2,p.2:=λp Y=>hob p (by simp[Y])
 have bq:¬fn.name = "runtime.NumGoroutine":=by simpa using hn
 have hK:∀k a,(k,a)∈H0.bx->800000<=k/\a.length=nOf k:=λk a hm=>by simpa using kd.1 bl _ hm
 have aa:∀{k:Nat},H1.bk k=H0.bk k:=λ{k}=>by
  have : H1.bx.map (λe=>e.1)=H0.bx.map (λe=>e.1):=by have:=congrArg (List.map Prod.fst) bb;simpa only[jg0,je0]using this
  have e:∀H:Hp,H.bk k=(H.bx.map (λe=>e.1)).any (· == k):=λH=>by simp[Hp.bk,List.any_map,je0]
  rw[e,e,this]
 refine⟨⟨λaz w=>by simp[callFunc,hf,bq,hb,Result.andThen],GI hv⟩,?_⟩;show (match (@Sp.mk f args vr.1 mv0 fr0 ⟨H0,H1⟩).no with|false=>yc P f args vr.1 H0 H1|true=>_);rw[hno];intro β ok w vs c aq
 letI:pq:=qh β
 have hl:vs.length=args.length:=aq.length;have D:∀x v,get (argsS 0 args++H0.st) x=some v->(∃j A,x=(0,j)/\args[j]?=some A/\v =.of A)\/(∃k a q y,(k,a)∈H0.bx/\x=(k+1,q)/\a[q]?=some y/\v =.of (.one y))\/∃k,(k,v)∈H0.ls/\x=(k+1,0):=λx v V=>by
  rcases ki.1 (get_mem _ _ _ V)with h|h
  .have⟨j,A,d,r,I⟩:=argsS_mem _ _ _ _ h;exact .inl ⟨j,A,by rw[d,qb1],r,I⟩
  .exact .inr (Hp.II h)
 have S:∀x,x∈H0.st.map (λ(x:Loc×AV)=>x.1)->(get (argsS 0 args++H0.st) x).isSome:=λx V=>by have:=get_mono (argsS 0 args++H0.st) [] x (.inr (by rw[qa0,ki];exact .inr V));rwa [qc4]at this
 have bh:∀A∈args,∀n∈A.keys,H0.lk n:=λA hA n hn=>by
  have hh:=kd.1 bc A hA;have : ∃y∈A.xs,n∈y.keys:=by
   cases A with
   | one y=>exact⟨y,by simp[A1.xs],hn⟩
   | agg ys=>simp only[A1.keys,qb2]at hn;exact hn
  have⟨y,hy,hn⟩:=this;exact Mk.keys (kd.1 hh y hy) hn
 have ok0:∀b,b<w.heap.size->ok b->okB w.heap.size ok β b:=λb hb ho=>.inl ⟨hb,ho⟩;have k0:zH ok w (okB w.heap.size ok β) w:=⟨jj _,λb hb ho=>⟨ok0 b hb ho,λ_=>rfl⟩⟩;have ba:∀x v,jm β ok w x v->jm β (okB w.heap.size ok β) w x v:=λx v=>jm.kL k0 (λ_ _ _ e=>e) x v (λn _ b e=>⟨e,rfl⟩);have ah:∀k b,β k=some b->b<w.heap.size:=λk b e=>(c.dom k b e).2.1;have M:∀k b,β k=some b->ownB w.heap.size k b:=λk b e=>by
  refine .inr ⟨k,e,λhk=>⟨?_,rfl⟩,λhk=>?_⟩<;>rcases (c.dom k b e).1 with h|h
  .have⟨a,hm⟩:=Hp.Gp h;exact (hK k a hm).1
  .have:=m.lk h;omega
  .have:=m.bk h;omega
  .exact m.lk h
 have ca:Hnd w ok w:=⟨λb ⟨k,e⟩=>⟨(c.dom k b e).2.2,ah k b e⟩,λk b _ e=>⟨rfl,λ_ _=>⟨rfl,rfl⟩⟩,c.inj⟩;have aO:Inv w ok w ok [] fn.ntmps β ⟨vs.toArray++Array.replicate (fn.ntmps - vs.toArray.size) undef,[]⟩ w (argsS 0 args++H0.st):=by
  refine⟨Gw.refl _ _,λk b e=>⟨.inl (M k b e),ah k b e⟩,c.inj,λk b e=>S _ ?_,λx v cj V=>?_,rfl,?_,?_,⟨λ_=>⟨⟨rfl,rfl⟩,M⟩,λv hv=>?_⟩,λx v V n hn=>?_,ca⟩
  .rcases (c.dom k b e).1 with h|h
   .have⟨a,hm⟩:=Hp.Gp h;exact Hp.Y3 hm (m.b k a hm).2.1
   .exact Hp.uN h
  .rcases D x v V with⟨j,A,rfl,r,rfl⟩|⟨k,a,q,y,d,rfl,I,rfl⟩|⟨k,d,rfl⟩
   .have⟨u,e3,e4⟩:=aq.get _ _ r;have hj:j<vs.length:=(qT.1 e3).1;refine⟨u,?_,gm.kL k0 (λ_ _ _ h=>h) _ _ (λn hn b e=>⟨e,rfl⟩) e4⟩;rw[Array.getElem?_append_left (by simpa using hj)];simpa using e3
   .have⟨b,hb,hc⟩:=c.bx _ d;have⟨u,c1,c2,c3⟩:=hc q y I;exact⟨b,u,y,⟨hb,(m.b k a d).1⟩,rfl,c1,c2,ba y u c3⟩
   .obtain⟨_,t,n,es,rfl⟩:=m.l k _ d;exact⟨rfl,(c.ls _ d t n es rfl).keep k0 (λb _ e=>⟨e,rfl⟩)⟩
  .simp only[Array.size_append,jd6,Array.size_replicate];omega
  .cases e:β 1000000 with
   | none=>rfl
   | some b =>
    rcases (c.dom _ b e).1 with h|h
    .have:=m.bk h;omega
    .have:=m.lk h;omega
  .rcases D _ v hv with⟨j,A,d,_⟩|⟨k,a,q,y,d,r,_⟩|⟨k,d,r⟩
   .simp at d
   .have:=(m.b k a d).1;simp only[ju]at r;omega
   .have:=(m.l k _ d).1;simp only[ju]at r;omega
  .rcases D x v V with⟨j,A,rfl,r,rfl⟩|⟨k,a,q,y,d,rfl,I,rfl⟩|⟨k,d,rfl⟩
   .exact S _ (Hp.uN (bh A (ka r) n hn))
   .exact S _ (Hp.uN (Mk.keys ((m.b k a d).2.2 y (ka I)).1 hn))
   .obtain⟨_,t,n,es,rfl⟩:=m.l k _ d;cases hn
 have⟨_,kk⟩:=rG (Wb:=w) (okb:=ok) (ds:=[]) (hL β) hm body _ _ _ _ _ _ B (λs hs=>@Holds.any res0 (qh β) P s (hC s hs) (by simpa using kd.1 ar s hs)) aj;refine calls_of_wp hf hb (kk w ok β _ w _ aO ?_);intro W1 cc β1 a' w' i;have⟨⟨g,o⟩,K⟩:=i.FK.1 (qa6.1 ae.2);subst W1;subst cc
 let β2:Nat->Option Nat:=λk=>if H1.bk k||H1.lk k then β1 k else none
 have g1:∀k b,β2 k=some b->β1 k=some b/\(H1.bk k||H1.lk k):=λk b e=>by
  simp only[β2]at e;split at e
  .rename_i h;exact⟨e,h⟩
  .cases e
 have g2:∀k b,β1 k=some b->(H1.bk k||H1.lk k)->β2 k=some b:=λk b e h=>by simp only[β2];rw[if_pos h];exact e
 have l1:∀k b,β1 k=some b->b<w'.heap.size:=λk b e=>(i.new k b e).2;have ab:∀b,bs b->∃k,β k=some b:=λb h=>h;have E:∀b,okB w.heap.size ok β1 b->NJ β ok w β2 b:=λb hb=>hb.imp id (λh=>⟨h.1.imp id (ab b),λk e=>h.2 k (g1 k b e).1⟩);have U:∀k b,2000000<=k->H1.lk k=false->β1 k=some b->NJ β ok w β2 b:=λk b hk bm e=>.inr ⟨(nT (K k b e)).imp id (ab b),λW e'=>by
  have⟨e3,e4⟩:=g1 W b e';obtain rfl:=i.inj W k b e3 e;have : H1.bk W=false:=by cases e:H1.bk W with|false=>rfl|true=>have:=X.bk e;omega
  rw[this,bm]at e4;cases e4⟩
 have Y:∀x v,H1.holds x->jm β1 (okB w.heap.size ok β1) w' x v->jm β2 (NJ β ok w β2) w' x v:=λx v=>jm.part ⟨jj _,λb _ h=>⟨E b h,λ_=>rfl⟩⟩ (λn hn _ b e=>g2 n b e (by rw[hn];rfl)) (λn _ b e=>⟨(g1 n b e).1,rfl⟩) x v;have⟨u,d,r⟩:=KI i E U Y hv ak
 -- boxes are where they were
 have O:∀k,H1.bk k->∃a b,(k,a)∈H1.bx/\β1 k=some b/\β k=some b/\∀q x,a[q]?=some x->∃u,w'.cell? ⟨b,q,none⟩=some u/\w'.frozen? ⟨b,q,none⟩=false/\jm β1 (okB w.heap.size ok β1) w' x u:=λk hk=>by
  have⟨a,hm⟩:=Hp.Gp hk;have⟨k6,an,_⟩:=X.b k a hm;have⟨cd,bn⟩:=Hp.Gp (aa ▸ hk);have cf:=(hK k cd bn).1;have z:∀q x,a[q]?=some x->∃b u,β1 k=some b/\w'.cell? ⟨b,q,none⟩=some u/\w'.frozen? ⟨b,q,none⟩=false/\jm β1 (okB w.heap.size ok β1) w' x u:=λq x N=>by have g:=(jg1.1 eb) (k,a) hm;simp only at g;have o:=(mJ _ _ _ g).2 q x N;rw[qb1]at o;have⟨b,u,y,F,G,q3,q4,q5⟩:=i.rep (k+1,q) _ (λe=>by have e:k+1=1000001:=e;omega) o;simp only[AV.of.injEq,A1.one.injEq]at G;subst G;exact⟨b,u,F.1,q3,q4,q5⟩
  have⟨b,_,R,_⟩:=z 0 _ (qu an);refine⟨a,b,hm,R,?_,λq x N=>?_⟩
  .rcases K k b R with⟨_,h⟩|⟨k3,I,h4,_⟩
   .omega
   .obtain⟨_,rfl⟩:=h4 k6;exact I
  .have⟨Z,u,F,G,q3,q4⟩:=z q x N;obtain rfl:Z=b:=by rw[R]at F;simpa using F.symm
   exact⟨u,G,q3,q4⟩
 have ad:a'.defers=[]/\∃v,(results fn a'.tmps).run P w' =.ok v w'/\∃β',acS β w β' w' H0/\EE β' (NJ β ok w β') w' H1/\∃v2,Ending.returned v =.returned v2/\iZ β' (NJ β ok w β') w' vr.1 v2:=by
  refine⟨i.XU,u,d,β2,⟨⟨i.gr.os,i.gr.tape,i.gr.output,i.gr.size,λb hb hs=>i.gr.block b hb hs⟩,λk b hk=>⟨λe=>?_,λe=>?_⟩,λk b e=>?_,λk b hk e=>?_⟩,⟨λe B=>?_,λe B t n es ee=>?_,λk b e=>?_,λk W b e e'=>i.inj k W b (g1 k b e).1 (g1 W b e').1⟩,u,rfl,r⟩
  .have⟨g,o⟩:=g1 k b e;have J:H1.bk k:=by
    cases hl:H1.lk k with
    | true=>have:=X.lk hl;omega
    | false=>rw[hl,Bool.or_false]at o;exact o
   have⟨_,Z,_,F,G,_⟩:=O k J;rw[F]at g;simp only[qq]at g;exact g ▸ G
  .have J:H1.bk k:=by
    rcases (c.dom k b e).1 with h|h
    .rw[aa];exact h
    .have:=m.lk h;omega
   have⟨_,Z,_,F,G,_⟩:=O k J;rw[e]at G;simp only[qq]at G;exact g2 k b (G ▸ F) (by rw[J];rfl)
  .rcases K k b (g1 k b e).1 with⟨h,_⟩|⟨k3,I,_,h5⟩
   .exact .inl h
   .exact .inr ⟨k3,I,λh=>h5 od⟩
  .have⟨r1,r2⟩:=i.qQ.2.1 k b hk e;refine⟨r1,λq N=>r2 q ?_⟩;rcases (c.dom k b e).1 with h|h
   .have⟨a,hm⟩:=Hp.Gp h;rw[<-(hK k a hm).2];exact N _ hm rfl
   .have:=m.lk h;omega
  .have⟨k,a⟩:=e;have⟨cl,b,ch,F,G,q3⟩:=O k (Hp.Wv B);refine⟨b,g2 k b F (by rw[Hp.Wv B];rfl),λq x N=>?_⟩;have g:=(jg1.1 eb) (k,a) B;simp only at g;have o:=(mJ _ _ _ g).2 q x N;rw[qb1]at o;have⟨Z,u,y,c1,c2,c3,c4,c5⟩:=i.rep (k+1,q) _ (λe=>by have e:k+1=1000001:=e;have:=(X.b k a B).1;omega) o;simp only[AV.of.injEq,A1.one.injEq]at c2;subst c2;obtain rfl:Z=b:=by have:=c1.1;rw[F]at this;simpa using this.symm
   exact⟨u,c3,c4,Y x u ((X.b k a B).2.2 x (ka N)).1 c5⟩
  .have⟨k,v⟩:=e;simp only at ee;subst ee;have g:=(jg1.1 el) _ B;simp only at g;have hL:=(i.rep (k+1,0) _ (λe=>by have e:k+1=1000001:=e;have:=(X.l k _ B).1;omega) g).2;exact hL.keep ⟨jj _,λb _ h=>⟨E b h,λ_=>rfl⟩⟩ (λb _ e=>⟨g2 k b e (by rw[Hp.PV B,Bool.or_true]),rfl⟩)
  .have⟨g,o⟩:=g1 k b e;refine⟨by simpa using o,l1 k b g,?_⟩;rintro (h|h)
   .exact Dr i.qQ (K k b g) h
   .exact h.2 k e
 match e,ae.1 with
 | 0,_=>exact ad
 | 1,_=>exact ad
def sw (a b k:Nat):Nat:=if k=a then b else if k=b then a else k
def X.sw (a b:Nat):X->X
 | .p k o=>.p (Pe.sw a b k) o
 | .g k n l=>.g (Pe.sw a b k) n l
 | .q k o=>.q (Pe.sw a b k) o
 | .c h ks=>.c h (ks.map (Pe.sw a b))
 | x=>x
def A1.sw (a b:Nat):A1->A1
 | .one x=>.one (x.sw a b)
 | .agg xs=>.agg (xs.map (X.sw a b))
def AV.sw (a b:Nat):AV->AV
 | .of x=>.of (x.sw a b)
 | .rz xs=>.rz (xs.map (A1.sw a b))
 | v=>v
def Hp.sw (a b:Nat) (H:Hp):Hp:=⟨H.bx.map λe=>(Pe.sw a b e.1,e.2.map (X.sw a b)),H.ls.map λe=>(Pe.sw a b e.1,e.2)⟩
def kW(a b k:Nat):sw a b (sw a b k)=k:=by
 by_cases d:k=a
 .subst d;by_cases c:b=k<;>simp[sw,c]
 .by_cases c:k=b
  .subst c;simp[sw,d]
  .simp[sw,d,c]
def dU.iff{α β:Type}{R:α->cm->Prop}{R':β->cm->Prop}{g:β->α}(h:∀x v,R (g x) v ↔ R' x v):∀{xs:List β}{vs:bo},dU R (xs.map g) vs ↔ dU R' xs vs
 | [],[]=>Iff.rfl
 | [],_::_=>Iff.rfl
 | _::_,[]=>Iff.rfl
 | x::xs,v::vs=>by simp only[qc0,dU,h,dU.iff h]
def abf{a b:Nat}{H:Hp}{k:Nat} : (H.sw a b).bk (Pe.sw a b k)=H.bk k:=by
 simp only[Hp.bk,Hp.sw,List.any_map,je0]
 congr 1;funext e
 rw[jd1,jg3,jg3];exact⟨λh=>by rw[<-kW a b e.1,h,kW],λh=>by rw[h]⟩
def aby{a b:Nat}{H:Hp}{k:Nat} : (H.sw a b).lk (Pe.sw a b k)=H.lk k:=by
 simp only[Hp.lk,Hp.sw,List.any_map,je0]
 congr 1;funext e
 rw[jd1,jg3,jg3];exact⟨λh=>by rw[<-kW a b e.1,h,kW],λh=>by rw[h]⟩
section
variable {a b:Nat}(hc:(a<1000000/\b<1000000)\/(2000000<=a/\2000000<=b))
include hc
def Q5{k:Nat} : sw a b k<1000000 ↔ k<1000000:=by unfold sw;split<;>(try split)<;>omega
def Y6{k:Nat} : 2000000<=sw a b k ↔ 2000000<=k:=by unfold sw;split<;>(try split)<;>omega
def jm.sw{β:Nat->Option Nat}{ok:br}{w:cg} : ∀{x:X}{v:cm},jm β ok w (x.sw a b) v ↔ jm (λk=>β (Pe.sw a b k)) ok w x v
 | .d _,_=>Iff.rfl
 | .e _ _,_=>Iff.rfl
 | .f _ _,_=>Iff.rfl
 | .g _ _ _,_=>Iff.rfl
 | .q _ _,_=>Iff.rfl
 | .p k o,v=>⟨λ⟨b,h,e⟩=>⟨b,⟨h.1,(Q5 hc).1 h.2⟩,e⟩,λ⟨b,h,e⟩=>⟨b,⟨h.1,(Q5 hc).2 h.2⟩,e⟩⟩
 | .c f i,v=>by simp only[X.sw,jm,kB,jg0,je0,forall_exists_index,and_imp,forall_apply_eq_imp_iff₂,Q5 hc]
def gm.sw{β:Nat->Option Nat}{ok:br}{w:cg} : ∀{x:A1}{v:cm},gm β ok w (x.sw a b) v ↔ gm (λk=>β (Pe.sw a b k)) ok w x v
 | .one x,v=>jm.sw hc
 | .agg c,v=>by simp only[A1.sw,gm,dU.iff (λx v=>jm.sw hc)]
def iZ.sw{β:Nat->Option Nat}{ok:br}{w:cg} : ∀{x:AV}{v:cm},iZ β ok w (x.sw a b) v ↔ iZ (λk=>β (Pe.sw a b k)) ok w x v
 | .of x,v=>gm.sw hc
 | .rz c,v=>by simp only[AV.sw,iZ,dU.iff (λx v=>gm.sw hc)]
 | .kv _ _ _,_=>Iff.rfl
 | .dead,_=>Iff.rfl
def nA.sw{β:Nat->Option Nat}{ok:br}{w:cg}{k:Nat}{t:TypeId}{n:Nat}{es:List bd} : nA β ok w (Pe.sw a b k) t n es ↔ nA (λk=>β (Pe.sw a b k)) ok w k t n es:=by unfold nA;simp only[Y6 hc]
def EE.sw{β:Nat->Option Nat}{ok:br}{w:cg}{H:Hp} : EE β ok w (H.sw a b) ↔ EE (λk=>β (Pe.sw a b k)) ok w H:=by
 refine⟨λhF=>⟨λe f=>?_,λe f t n s r=>(nA.sw hc).1 (hF.ls (Pe.sw a b e.1,e.2) (kB.2 ⟨e,f,rfl⟩) t n s r),
  λk c e=>by have:=hF.dom _ c e;rwa [abf,aby]at this,λk z c e o=>by rw[<-kW a b k,hF.inj _ _ c e o,kW]⟩,
  λd=>⟨λe f=>?_,λe f t n s r=>?_,λk c e=>?_,λk z c e o=>?_⟩⟩
 .have⟨c,v,h⟩:=hF.bx (Pe.sw a b e.1,e.2.map (X.sw a b)) (kB.2 ⟨e,f,rfl⟩);refine⟨c,v,λq x i=>?_⟩;have⟨u,j,l,m⟩:=h q (x.sw a b) (by simp only[qb0,i];rfl);exact⟨u,j,l,(jm.sw hc).1 m⟩
 .obtain⟨p,g,rfl⟩:=kB.1 f;have⟨c,v,h⟩:=d.bx p g;refine⟨c,v,λq x i=>?_⟩;simp only[qb0,qS]at i;obtain⟨y,A,rfl⟩:=i;have⟨u,j,l,m⟩:=h q y A;exact⟨u,j,l,(jm.sw hc).2 m⟩
 .obtain⟨p,g,rfl⟩:=kB.1 f;exact (nA.sw hc).2 (d.ls p g t n s r)
 .have h:=d.dom (Pe.sw a b k) c (by simp only[kW];exact e);rw[<-kW a b k,abf,aby];exact h
 .have:=d.inj (Pe.sw a b k) (Pe.sw a b z) c (by simp only[kW];exact e) (by simp only[kW];exact o);rw[<-kW a b k,this,kW]
def yc.sw{P:Program}{f:FuncId}{args:List A1}{res:AV}{H H':Hp}(h:yc P f args res H H'):yc P f (args.map (A1.sw a b)) (res.sw a b) (H.sw a b) (H'.sw a b):=by
 intro β p w E hF o;have s:∀{β:Nat->Option Nat} {c:Nat},(∃k,β (Pe.sw a b k)=some c) ↔ ∃k,β k=some c:=λ{β c}=>⟨λ⟨k,e⟩=>⟨_,e⟩,λ⟨k,e⟩=>⟨Pe.sw a b k,by rw[kW];exact e⟩⟩;refine (h _ p w E ((EE.sw hc).1 hF) ((dU.iff (λx v=>gm.sw hc)).1 o)).mono ?_;rintro e w' ⟨β2,hW,d,v,rfl,u⟩;have r:(λk=>β2 (Pe.sw a b (Pe.sw a b k)))=β2:=by funext k;rw[kW]
 have i:NJ (λk=>β (Pe.sw a b k)) p w β2=NJ β p w (λk=>β2 (Pe.sw a b k)):=by
  funext c
  unfold NJ;rw[s,show (∀k,β2 k≠some c)=∀k,β2 (Pe.sw a b k)≠some c from propext ⟨λh k=>h _,λh k=>by have:=h (Pe.sw a b k);rwa [kW]at this⟩]
 rw[i]at d u;have y:=@Q5 a b hc;have t:=@Y6 a b hc;refine⟨λk=>β2 (Pe.sw a b k),⟨⟨hW.gr.os,hW.gr.tape,hW.gr.output,hW.gr.size,λc j l=>hW.gr.block c j (λA=>l (s.1 A))⟩,λk c n=>?_,λk c e=>?_,λk c n e=>?_⟩,(EE.sw hc).2 (by simp only[r];exact d),v,rfl,?_⟩
 .have:=hW.low (Pe.sw a b k) c (y.2 n);rwa [kW]at this
 .refine (hW.src _ c e).imp id λ⟨F,j,l⟩=>⟨_,j,λh=>t.2 (l (t.2 h))⟩
 .have⟨C,D⟩:=hW.rest (Pe.sw a b k) c (y.2 n) (by rw[kW];exact e);refine⟨C,λq B=>D q (λg m z=>?_)⟩;have:=B (Pe.sw a b g.1,g.2.map (X.sw a b)) (kB.2 ⟨g,m,rfl⟩) (by rw[z,kW]);simpa using this
 .rw[iZ.sw hc,r];exact u
def yc.swP{P:Program}{f:FuncId}{args:List A1}{res:AV}{H H':Hp}(r:2000000<=a/\2000000<=b)(h:yc P f args res H H'):yc P f args (res.sw a b) H (H'.sw a b):=by
 intro β j w q hF i;refine (h _ j w q hF i).mono ?_;rintro e w' ⟨β2,hW,d,v,rfl,m⟩;have l:(λk=>β2 (Pe.sw a b (Pe.sw a b k)))=β2:=by funext k;rw[kW]
 have g:NJ β j w β2=NJ β j w (λk=>β2 (Pe.sw a b k)):=by
  funext c
  unfold NJ;rw[show (∀k,β2 k≠some c)=∀k,β2 (Pe.sw a b k)≠some c from propext ⟨λh k=>h _,λh k=>by have:=h (Pe.sw a b k);rwa [kW]at this⟩]
 rw[g]at d m;refine⟨λk=>β2 (Pe.sw a b k),⟨hW.gr,λk c p=>?_,λk c e=>?_,hW.rest⟩,(EE.sw hc).2 (by simp only[l];exact d),v,rfl,?_⟩
 .rw[show Pe.sw a b k=k by unfold Pe.sw;rw[oa,oa]];exact hW.low k c p
 .exact (hW.src _ c e).imp id λ⟨s,n,o⟩=>⟨_,n,λh=>o ((Y6 hc).2 h)⟩
 .rw[iZ.sw hc,l];exact m
end
def X.yQ{a b:Nat} : ∀x:X,(x.sw a b).keys=x.keys.map (Pe.sw a b)
 | .d _=>rfl
 | .p _ _=>rfl
 | .e _ _=>rfl
 | .f _ _=>rfl
 | .g _ _ _=>rfl
 | .q _ _=>rfl
 | .c _ _=>rfl
def A1.yQ{a b:Nat}(x:A1):(x.sw a b).keys=x.keys.map (Pe.sw a b):=by
 cases x with
 | one x=>exact X.yQ x
 | agg c=>simp only[A1.sw,A1.keys,List.flatMap_map,List.map_flatMap,X.yQ]
def AV.abO{a b:Nat}{res:AV}{H':Hp}(h:res.keys.all H'.lk):(res.sw a b).keys.all (H'.sw a b).lk:=by
 refine kd.2 λn c=>?_;have : ∃m∈res.keys,n=Pe.sw a b m:=by
  cases res with
  | of x=>simp only[AV.sw,AV.keys,A1.yQ,kB]at c;have⟨m,d,f⟩:=c;exact⟨m,d,f.symm⟩
  | rz k=>simp only[AV.sw,AV.keys,List.flatMap_map,A1.yQ,qb2,kB]at c;have⟨x,j,m,d,f⟩:=c;exact⟨m,by simp only[AV.keys,qb2];exact⟨x,j,d⟩,f.symm⟩
  | _=>cases c
 obtain⟨m,g,rfl⟩:=this;have⟨v,i⟩:=Hp.Ko (kd.1 h m g);exact Hp.PV (H:=H'.sw a b) (e:=(Pe.sw a b m,v)) (kB.2 ⟨_,i,rfl⟩)
def zM{α β:Type}(l:List α)(g:α->β):(l.map g).isEmpty=l.isEmpty:=by cases l<;>rfl
def Holds.sw{P:Program}{f:FuncId}{args:List A1}{res:AV}{H H':Hp}(h:Holds P (@Sp.mk f args res mv0 fr0 ⟨H,H'⟩))(a b:Nat)(hc:(a<1000000/\b<1000000)\/(2000000<=a/\2000000<=b))(c:(@Sp.mk f args res mv0 fr0 ⟨H,H'⟩).no=false):Holds P (@Sp.mk f (args.map (A1.sw a b)) (res.sw a b) mv0 fr0 ⟨H.sw a b,H'.sw a b⟩):=by
 refine⟨⟨h.OT.1,AV.abO h.OT.2⟩,?_⟩;have e:(@Sp.mk f (args.map (A1.sw a b)) (res.sw a b) mv0 fr0 ⟨H.sw a b,H'.sw a b⟩).no=false:=by show ((H.bx.map _).isEmpty&&(H.ls.map _).isEmpty&&(H'.bx.map _).isEmpty&&(H'.ls.map _).isEmpty)=false;rw[zM,zM,zM,zM];exact c
 have:=yc.sw hc (h.bH c);show (match (@Sp.mk f (args.map (A1.sw a b)) (res.sw a b) mv0 fr0 ⟨H.sw a b,H'.sw a b⟩).no with|false=>yc P f (args.map (A1.sw a b)) (res.sw a b) (H.sw a b) (H'.sw a b)|true=>_);rw[e];exact this
def Holds.swP{P:Program}{f:FuncId}{args:List A1}{res:AV}{H H':Hp}(h:Holds P (@Sp.mk f args res mv0 fr0 ⟨H,H'⟩))(a b:Nat)(d:2000000<=a/\2000000<=b)(c:(@Sp.mk f args res mv0 fr0 ⟨H,H'⟩).no=false):Holds P (@Sp.mk f args (res.sw a b) mv0 fr0 ⟨H,H'.sw a b⟩):=by
 refine⟨⟨h.OT.1,AV.abO h.OT.2⟩,?_⟩;have e:(@Sp.mk f args (res.sw a b) mv0 fr0 ⟨H,H'.sw a b⟩).no=false:=by show (H.bx.isEmpty&&H.ls.isEmpty&&(H'.bx.map _).isEmpty&&(H'.ls.map _).isEmpty)=false;rw[zM,zM];exact c
 have:=yc.swP (.inr d) d (h.bH c);show (match (@Sp.mk f args (res.sw a b) mv0 fr0 ⟨H,H'.sw a b⟩).no with|false=>yc P f args (res.sw a b) H (H'.sw a b)|true=>_);rw[e];exact this
end Go.Proofs.YtnamdihclpbdfaaGreat.Pe
