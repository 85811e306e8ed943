import Derived.Lib.AppendZeros
import Derived.Test.YtgfdimkbfnpepaaGreatKtZab
import Derived.Lib.AppendStr
namespace Go.Proofs.YtgfdimkbfnpepaaGreat
set_option linter.all false
open Go.Proofs.Tryz
set_option maxRecDepth 100000
set_option maxHeartbeats 4000000
open Go.ChangeShapes Go.WideShapes Go.ChangeAt Go.RowKit
variable {s:bo}{n p:Int}{ts:ao}{vs:bk}{H b c cb k l m o rb tb:Nat}{ok:br}{V:bt}{a:bj}{t:Tr}{T:Ty}{lv u v:cg}{W w w' w2:bx}
def zG{P:Program}(w:bx)(t m ty e:TypeId)(k p:IntKind)(z:cg)(a b:Nat)(c:(P.info? e).map (λi=>(i.zero,i.size,i.bytes))=some (some z,a,b))(v:P.underlying t=some (.slice e))(h:P.underlying m=some (.int p))
 (n:Nat) (h0:0<n) (hs:0<a) (hzs:z.cells.size=a) (hn:n<=1000000000) (hb:b<=1000) :
 ∃g cap w',(Builtin.append_ #[t,m] ty #[.n0,.int k n]).run P w =.ok (.o g n cap) w'/\w'.ownsRow w.heap.size e a (.o g 0 cap) 0 []/\cm w w' none/\n<=cap/\cap<=9223372036854775807:=by
 have⟨o,r,j,x,l⟩:=ja0 c;have q:n*o.bytes<=1000000000*1000:=by rw[l];exact Nat.mul_le_mul hn hb
 have u:=Lib.run_append_nil_zeros w t m ty e o z k p v h r j n h0 od od od;have f:=grownCap_ge w n 0 e;have d:grownCap w n 0 e<=maxLen:=grownCap_le_maxLen w n 0 e On;refine⟨_,_,_,u,⟨ot,.inr ⟨w.heap.size,_,_,rfl,qS _,jj w.drew _,zE _,d,?_,ot⟩⟩,⟨rfl,rfl,rfl,ot,λk s _=>qd2 w.drew _ s⟩,f,by unfold maxLen at d;omega⟩;simp only[Array.size_append,size_zeroCells,hzs,<-ja1]
 congr 1
 omega
def Qx:(prog.info? 36).map (λi=>(i.zero,i.size,i.bytes))=some (some (.agg #[.i 0,.i 0,.i 0,.string ⟨#[]⟩,.n0,.n0,.n0]),7,112):=oA
def dw.drop(h:dw ok w ts (some ⟨b,o,none⟩) V)(k:Nat):dw ok w (ts.drop k) (some ⟨b,o+k*2,none⟩) (λi=>V (i+k)):=by
 refine⟨by have:=h.1;simp;omega,λi d=>?_,λi d=>?_⟩
 .have a:i+k<ts.length:=by simp at d;omega
  have⟨p,q,e,m,t,f,l,c,n,g,j⟩:=h.2.1 (i+k) a;simp only[qk,qc7,and_true]at e;obtain⟨rfl,rfl⟩:=e;refine⟨b,o+k*2,rfl,m,t,f,l,c,n,?_,?_⟩
  .rw[show o+k*2+i*2=o+(i+k)*2 from by omega];exact g
  .rw[show o+k*2+i*2+1=o+(i+k)*2+1 from by omega];exact j
 .have a:i+k<ts.length:=by simp at d;omega
  have:=h.2.2 (i+k) a;rw[List.getElem_drop];simpa[Nat.add_comm]using this
def dw.take(h:dw ok w ts a V)(k:Nat):dw ok w (ts.take k) a V:=by refine⟨by have:=h.1;simp;omega,λi b=>h.2.1 i (by simp at b;omega),λi b=>?_⟩;rw[List.getElem_take];exact h.2.2 i (by simp at b;omega)
def dw.base(h:dw ok w ts a V)(c:0<ts.length):∃b o,a=some ⟨b,o,none⟩:=by have⟨b,o,e,_⟩:=h.2.1 0 c;exact⟨b,o,e⟩
def aH.ofRow{t:Int}{args:ao}(d:bD t)(b:args.length<=c)(h:dw ok w args a V):aH ok w (.nd t args) (Go.Proofs.YtgfdimkbfnpepaaGreat.bY t a args.length c) :=
 .mk V h.1 b d h.2.1 h.2.2
def jo (w:bx) (ts:ao) (u:cg):Prop:=∃a c V,u =.slice a ts.length c/\ts.length<=c/\dw (λ_=>True) w ts a V
def jo.grow(h:jo w ts u)(f:cm w W none):jo W ts u:=by have⟨a,c,V,e,b,d⟩:=h;exact⟨a,c,V,e,b,d.same (ni f)⟩
def ZK(h:Hid (jo w ts u))(g:cm w W none):Hid (jo W ts u):=h.out.grow g
def jo.nil(w:bx)(a:bj)(c:Nat):jo w [] (.slice a 0 c):=⟨a,c,λ_=>.i 0,rfl,zE _,dw.nil _ _ _ _⟩
def aH.args{t:Int}(h:aH (λ_=>True) w T (Go.Proofs.YtgfdimkbfnpepaaGreat.bY t a l c)):T.t=t/\jo w T.args (.slice a l c):=by have d:=h.cap;have⟨g,i,V,e,_,f⟩:=h.inv;simp only[Go.Proofs.YtgfdimkbfnpepaaGreat.bY,qd7,qf0,xo,jd0,kl,true_and,and_true]at e;obtain⟨b,rfl,rfl,rfl⟩:=e;exact⟨b.symm,_,_,V,rfl,d,f⟩
def jo.cons(h:jo w (T::ts) u):∃b o c t a l k,u =.slice (some ⟨b,o,none⟩) (ts.length+1) c/\ts.length+1<=c/\w.cell? ⟨b,o,none⟩=some (.i t)/\w.cell? ⟨b,o+1,none⟩=some (.slice a l k)/\aH (λ_=>True) w T (Go.Proofs.YtgfdimkbfnpepaaGreat.bY t a l k):=by have⟨p,c,V,e,j,f⟩:=h;obtain⟨b,o,rfl,_,t,a,l,k,n,g,m⟩:=f.2.1 0 ot;have d:=f.2.2 0 ot;rw[n]at d;exact⟨b,o,c,t,a,l,k,e,by simpa using j,by simpa using g,by simpa using m,d⟩
def jo.len(h:jo w ts (.slice a l c)):l=ts.length/\ts.length<=c/\ts.length<=maxLen:=by have⟨f,g,V,e,b,d⟩:=h;simp only[kl]at e;obtain⟨rfl,rfl,rfl⟩:=e;exact⟨rfl,b,d.1⟩
def jo.form(h:jo w ts u):∃a c,u =.slice a ts.length c/\ts.length<=c/\ts.length<=9223372036854775807:=by have⟨b,d,V,e,f,g⟩:=h;exact⟨b,d,e,f,by have:=g.1;unfold maxLen at this;omega⟩
def jo.drop(h:jo w ts (.slice (some ⟨b,o,none⟩) l c))(k:Nat)(hk:k<=ts.length):jo w (ts.drop k) (.slice (some ⟨b,o+k*2,none⟩) (l - k) (c - k)):=by have⟨d,f,V,e,g,a⟩:=h;simp only[kl]at e;obtain⟨rfl,rfl,rfl⟩:=e;exact⟨_,_,_,by rw[ka5],by rw[ka5];omega,a.drop k⟩
def jo.take(h:jo w ts (.slice a l c))(k b:Nat)(hk:k<=ts.length)(hc:k<=b):jo w (ts.take k) (.slice a k b):=by have⟨f,g,V,e,i,d⟩:=h;simp only[kl]at e;obtain⟨rfl,rfl,rfl⟩:=e;exact⟨_,_,V,by rw[qc5,jd1 hk],vc,d.take k⟩
def jo.one{t:Int}(hb:w.heap[b]?=some (.cells #[.i t,.slice a l k] 54 (0,0)))(d:aH (λ_=>True) w T (Go.Proofs.YtgfdimkbfnpepaaGreat.bY t a l k)):jo w [T] (.o b 1 1):=by
 refine⟨_,_,λ_=>Go.Proofs.YtgfdimkbfnpepaaGreat.bY t a l k,rfl,ot,ZS,λi c=>?_,λi c=>?_⟩
 .have : i=0:=by simpa using c
  subst this;exact⟨b,0,rfl,trivial,t,a,l,k,rfl,xq hb,wy hb⟩
 .have : i=0:=by simpa using c
  subst this;exact d
def jo.two{t e:Int}{c:bj}{l2 d:Nat}{U:Ty}(hb:w.heap[b]?=some (.cells #[.i t,.slice a l k,.i e,.slice c l2 d] 54 (0,0)))(g:aH (λ_=>True) w T (Go.Proofs.YtgfdimkbfnpepaaGreat.bY t a l k))(h:aH (λ_=>True) w U (Go.Proofs.YtgfdimkbfnpepaaGreat.bY e c l2 d)):jo w [T,U] (.o b 2 2):=by
 refine⟨_,_,λi=>if i=0 then Go.Proofs.YtgfdimkbfnpepaaGreat.bY t a l k else Go.Proofs.YtgfdimkbfnpepaaGreat.bY e c l2 d,rfl,ot,ZS,λi f=>?_,λi f=>?_⟩
 .rcases (show i=0\/i=1 by simp at f;omega)with rfl|rfl
  .exact⟨b,0,rfl,trivial,t,a,l,k,rfl,by simp[World.cell?,hb],by simp[World.cell?,hb]⟩
  .exact⟨b,0,rfl,trivial,e,c,l2,d,rfl,by simp[World.cell?,hb],by simp[World.cell?,hb]⟩
 .rcases (show i=0\/i=1 by simp at f;omega)with rfl|rfl
  .exact g
  .exact h
def addr_add(b o j:Nat):(⟨b,o,none⟩:Addr).add j=⟨b,o+j,none⟩:=by
 unfold Addr.add
 by_cases h:j=0
 .subst h;rfl
 .rw[if_neg h]
def dw.src(h:dw (λ_=>True) w ts a V)(c:Nat):∃vs:bk,vs.length=ts.length/\gZ w (.slice a ts.length c) ts.length (bX vs)/\(bX vs).length=ts.length*2/\(∀u∈bX vs,u.oneCell')/\∀(i:Nat) (t:Ty) (u:cg),ts[i]?=some t->vs[i]?=some u->aH (λ_=>True) w t u:=by
 let vs:=(List.range ts.length).map V
 have f:vs.length=ts.length:=by simp[vs]
 have n:∀i,i<ts.length->vs[i]?=some (V i):=λi g=>by simp[vs,g]
 have C:∀i,i<ts.length->∃t m l k,V i=Go.Proofs.YtgfdimkbfnpepaaGreat.bY t m l k:=λi g=>by have⟨_,_,_,_,t,m,l,k,D,_⟩:=h.2.1 i g;exact⟨t,m,l,k,D⟩
 have E:∀u∈vs,∃t m l k,u=Go.Proofs.YtgfdimkbfnpepaaGreat.bY t m l k:=λu d=>by simp only[vs,ud,List.mem_range]at d;obtain⟨i,g,rfl⟩:=d;exact C i g
 have p:∀u∈vs,(tyCells u).length=2:=λu d=>by obtain⟨t,m,l,k,rfl⟩:=E u d;rfl
 have v:∀(s:bk),(∀u∈s,(tyCells u).length=2)->(bX s).length=s.length*2:=λs=>by
  induction s with
  | nil=>intro _;rfl
  | cons x s J =>
   intro z;have K:=z x ot;have A:=J (λu d=>z u (by simp[d]));simp only[bX,qd4,qT,jt]at A|-;omega
 refine⟨vs,f,?_,by rw[v vs p,f],λu d=>?_,λi t u y d=>?_⟩
 .cases a with
  | none =>
   have B:ts.length=0:=by
    rcases Nat.eq_zero_or_pos ts.length with e|e
    .exact e
    .have⟨b,o,A⟩:=h.base e;cases A
   exact .inl ⟨c,by rw[B],B,by rw[jx (f.trans B)];rfl⟩
  | some F =>
   refine .inr ⟨F,c,rfl,λj u d=>?_⟩;have I:j<(bX vs).length:=(qv.1 d).1;rw[v vs p,f]at I;have g:j / 2<ts.length:=od
   have⟨b,o,e,_,t,m,l,k,D,G,H⟩:=h.2.1 (j / 2) g;have r:=flatT_get vs p (j / 2) (j % 2) (V (j / 2)) (n _ g) od;rw[show j / 2*2+j % 2=j from by omega,d,D]at r;simp only[qk]at e;subst e;rcases (show j % 2=0\/j % 2=1 by omega)with q|q
   .rw[q]at r;simp[tyCells,Go.Proofs.YtgfdimkbfnpepaaGreat.bY]at r;rw[r,<-G];rw[addr_add,show o+j=o+j / 2*2 from by omega]
   .rw[q]at r;simp[tyCells,Go.Proofs.YtgfdimkbfnpepaaGreat.bY]at r;rw[r,<-H];rw[addr_add,show o+j=o+j / 2*2+1 from by omega]
 .simp only[bX,qc1]at d;have⟨x,z,d⟩:=d;obtain⟨t,m,l,k,rfl⟩:=E x z;simp[tyCells,Go.Proofs.YtgfdimkbfnpepaaGreat.bY]at d;rcases d with rfl|rfl<;>rfl
 .have g:i<ts.length:=(qv.1 y).1;rw[n i g]at d;rw[qn g]at y;simp only[qk]at y d;subst y;subst d;exact h.2.2 i g
def gZ.grow{xv:cg}{a:bk}(h:gZ w xv m a)(e:cm w w' none):gZ w' xv m a:=by
 rcases h with h|⟨d,c,rfl,h⟩
 .exact .inl h
 .refine .inr ⟨d,c,rfl,λj u f=>?_⟩;have b:=h j u f;exact (qt (e.block _ (zv w _ b) ot)).trans b
structure FL (W w:bx) (v:cg) (ts:ao) (vs:bk):Prop where
 own:wS W.heap.size w v vs
 len:vs.length=ts.length
 lies:∀(i:Nat) (t:Ty) (u:cg),ts[i]?=some t->vs[i]?=some u->aH (λ_=>True) W t u
def FL.more{v':cg}{us:ao}{ns:bk}(h:FL W w v ts vs)(e:wS W.heap.size w' v' (vs++ns))(d:ns.length=us.length)(f:∀(i:Nat) (t:Ty) (u:cg),us[i]?=some t->ns[i]?=some u->aH (λ_=>True) W t u):FL W w' v' (ts++us) (vs++ns):=by
 refine⟨e,by simp[h.len,d],λi t u a b=>?_⟩
 by_cases c:i<ts.length
 .rw[jz c]at a;rw[jz (by rw[h.len];exact c)]at b;exact h.lies i t u a b
 .rw[ju od]at a;rw[ju (by rw[h.len];omega),h.len]at b;exact f _ t u a b
def FL.done(h:FL W w v ts vs)(s:cm W w none):jo w ts v:=by
 have y:=h.len;have x:gz 0 w v ts vs:=by
  refine⟨?_,h.len,λi t u z A=>?_⟩
  .have⟨l,k⟩:=h.own;refine⟨l,?_⟩;rcases k with k|⟨g,f,j,e,_,q⟩
   .exact .inl k
   .exact .inr ⟨g,f,j,e,zE _,q⟩
  .have d:=(h.lies i t u z A).ae (ok':=(· < W.heap.size)) (λb d _=>d);refine (d.same (w':=w) (λb o d _=>qt (s.block b d ot))).ae (λb _ d=>⟨zE _,λe=>?_⟩);have q:=(zp h.own b e.symm).1;have : b<W.heap.size:=d;omega
 have⟨a,c,V,e,l,k⟩:=x.done;have r:ts.length<=maxLen/\ts.length<=c:=by
  rcases h.own.2 with⟨n,p⟩|⟨g,f,j,n,_,_,D,E,_⟩
  .rw[y]at p;rw[p];exact⟨zE _,zE _⟩
  .rw[n]at e;simp only[kl]at e;have⟨_,B,C⟩:=e;exact⟨od,od⟩
 exact⟨a,c,V,e,r.2,r.1,λi m=>(l i m).ae (λ_ _ _=>trivial),λi m=>(k i m).ae (λ_ _ _=>trivial)⟩
def lS (k n:Int) (s:bo):Bool:=decide (k=2/\n=0/\s.size=0)
mutual
def primB:Tr->Bool
 | .nd k n _ s args=>lS k n s&&primBs args
def primBs:aE->Bool
 | []=>true
 | t::ts=>primB t&&primBs ts
end
mutual
def kreadT:Tr->Ty
 | .nd _ _ p _ args=>.nd p (kreadTs args)
def kreadTs:aE->ao
 | []=>[]
 | t::ts=>kreadT t::kreadTs ts
end
def Kg(l:aE):kreadTs l=l.map kreadT:=by
 induction l with
 | nil=>rfl
 | cons t ts a=>simp[kreadTs,a]
def BR(l:aE):primBs l=l.all primB:=by
 induction l with
 | nil=>rfl
 | cons t ts a=>simp[primBs,a]
def oW (m:Nat) (t:Tr):Bool:=primB t&&decide (m+t.size<=300)
def Db (m:Nat) (t:Tr) (cb:Nat) (w2:bx) (e:Ending) (w':bx):Prop :=
 cm w2 w' (some cb)/\((oW m t/\∃u,e =.returned (.tuple #[u,.bool true])/\aH (w2.heap.size <= ·) w' (kreadT t) u/\jl w' cb (m+t.size)) \/
  (oW m t=false/\e =.returned (.tuple #[bY 0 none 0 0,.bool false])))
def set2 (w:bx) (b:Nat) (x y:cg):bx:=(w.setCell ⟨b,0,none⟩ x).setCell ⟨b,1,none⟩ y
def oZ{x0 a:cg}{T:TypeId}(h:w.heap[b]?=some (.cells #[x0,a] T (0,0)))(x y:cg):(set2 w b x y).heap[b]?=some (.cells #[x,y] T (0,0)):=by unfold set2;have c:=heap_setCell_same w b 0 #[x0,a] T x h;have d:=heap_setCell_same (w.setCell ⟨b,0,none⟩ x) b 1 _ T y c;simpa using d
def vI(w:bx)(b:Nat)(x y:cg):cm w (set2 w b x y) (some b):=dY (dY (bM _ _) _ _ _) _ _ _
def UY{k:Int}(m:Nat)(d:bx)(b:jl d cb m)(B:m<=300)(u:l<=maxLen)(r:oW m t=false)(e:m=300\/lS k n s=false) :
 Calls prog 187 #[af k n p s a l c,.po cb] d (Db m t cb d):=by
 have w:Hid (s.toList=[] ↔ s.size=0):=Lf.Au s;have z:=qf2 b;have A:=jf3 b;have C:cb<d.heap.size:=qa3 b;have D:cb<d.heap.size+1:=od
 have E:cb<d.heap.size+1+1:=od
 have f:=jh r;clear b r;unfold af
 by_cases j:m=300
 .have i:(300:Int)<(m:Int)+1:=by omega
  clear e;go_enter func187,ntmps187;go_wp2_with fail;refine yb (v:=.tuple #[bY 0 none 0 0,.bool false]) Zs rfl ⟨?_,.inr ⟨f,rfl⟩⟩;exact fF (fF (dY (bM _ _) _ _ _) (kL (aK _))) (kL (aK _))
 .have i:(m:Int)+1<=300:=by omega
  have g:lS k n s=false:=by
   rcases e with h|h
   .exact absurd h j
   .exact h
  have o:¬(k=2/\n=0/\s.size=0):=by simpa[lS]using g
  rcases (show k≠2\/(k=2/\n≠0)\/(k=2/\n=0/\s.size≠0) from by omega)with h|⟨rfl,h⟩|⟨rfl,rfl,h⟩
  .have q:(k==2)=false:=by simpa using h
   clear e g o;go_enter func187,ntmps187;go_wp2_with fail;refine yb (v:=.tuple #[bY 0 none 0 0,.bool false]) Zs rfl ⟨?_,.inr ⟨f,rfl⟩⟩;exact fF (fF (dY (bM _ _) _ _ _) (kL (aK _))) (kL (aK _))
  .have q:(n==0)=false:=by simpa using h
   clear e g o;go_enter func187,ntmps187;go_wp2_with fail;refine yb (v:=.tuple #[bY 0 none 0 0,.bool false]) Zs rfl ⟨?_,.inr ⟨f,rfl⟩⟩;exact fF (fF (dY (bM _ _) _ _ _) (kL (aK _))) (kL (aK _))
  .have q:s.toList.isEmpty=false:=by
    have:=w.out
    cases u:s.toList with
    | nil=>exact absurd (this.1 u) h
    | cons x y=>rfl
   clear e g o w;go_enter func187,ntmps187;go_wp2_with fail;refine yb (v:=.tuple #[bY 0 none 0 0,.bool false]) Zs rfl ⟨?_,.inr ⟨f,rfl⟩⟩;exact fF (fF (dY (bM _ _) _ _ _) (kL (aK _))) (kL (aK _))
structure RInv (w2 w:bx) (cb tb rb H m:Nat) (p:Int) (lv:cg) (ts:ao) (vs:bk):Prop where
 grown:cm w2 w (some cb)
 count:jl w cb m
 small:m<=300
 blk:w.heap[tb]?=some (.cells #[.i p,lv] 54 (0,0))
 res:w.heap[rb]?=some (.cells #[.i 0,.n0] 54 (0,0))
 list:gz H w lv ts vs
 hz:H<=w.heap.size
def RInv.next{m':Nat}(h:RInv w2 w cb tb rb H m p lv ts vs)(a:cm w w' (some cb))(e:tb≠cb)(d:rb≠cb)(b:cb<H)(hc:jl w' cb m')(c:m'<=300):RInv w2 w' cb tb rb H m' p lv ts vs :=
 ⟨fF h.grown a,hc,c,(a.block _ (qa3 h.blk) (by simpa using e)).trans h.blk,(a.block _ (qa3 h.res) (by simpa using d)).trans h.res,h.list.keep a b,km h.hz a.size⟩
def RInv.alloc(h:RInv w2 w cb tb rb H m p lv ts vs)(a:cb<H)(o:Obj):RInv w2 (w.alloc o) cb tb rb H m p lv ts vs :=
 ⟨fF h.grown (kL (aK _)),aB h.count,h.small,aB h.blk,aB h.res,h.list.keep (kL (aK _)) a,by rw[yv];exact Nat.le_succ_of_le h.hz⟩
def qQ{B:Nat}{e:TypeId}{a n:Nat}{xs:bk}(h:w.ownsRow B e a v n xs){y:Nat}(b:y<B):some y≠v.ownBlock:=λe=>by have:=(zp h y e.symm).1;omega
def RInv.push{S:Nat}{b:cg}{t:Ty}(h:RInv w2 w cb tb rb H m p lv ts vs)(l:cb<w2.heap.size)(o:w2.heap.size<=tb)(c:tb<H)(f:w2.heap.size<=rb)(d:rb<H)(e:rb≠tb)(j:H<=S)
 (hvS:∀k,lv.ownBlock=some k->k<S) (hL:aH (S <= ·) w t u) (hg:Gr w lv w' b) (ho:wS H w' b (vs++[u])):RInv w2 (w'.setCell ⟨tb,1,none⟩ b) cb tb rb H m p b (ts++[t]) (vs++[u]):=by
 have a:cm w' (w'.setCell ⟨tb,1,none⟩ b) (some tb):=dY (bM _ _) _ _ _;have kb:w'.heap[tb]?=_:=(hg.block (qa3 h.blk) (qQ h.list.own c)).trans h.blk;have g:w'.heap[rb]?=_:=(hg.block (qa3 h.res) (qQ h.list.own d)).trans h.res;have kc:w'.heap[cb]?=_:=(hg.block (qa3 h.count) (qQ h.list.own od)).trans h.count;refine⟨?_,?_,h.small,?_,?_,(h.list.push j hvS hL hg ho).keep a c,?_⟩
 .refine⟨hg.1.os.trans h.grown.os,hg.1.tape.trans h.grown.tape,hg.1.output.trans h.grown.output,km h.grown.size (km hg.1.size a.size),λi n f=>?_⟩;rw[a.block i (by have:=h.grown.size;have:=hg.1.size;omega) oB,hg.block (by have:=h.grown.size;omega) (qQ h.list.own od)];exact h.grown.block i n f
 .exact (a.block cb (qa3 kc) oB).trans kc
 .have:=heap_setCell_same w' tb 1 _ _ b kb;simpa using this
 .exact (a.block rb (qa3 g) (by simpa using e)).trans g
 .have:=h.hz;have:=hg.1.size;have:=a.size;omega
def Zz (w:bx) (cb m:Nat) (k n p:Int) (s:bo) (a:bj) (l c:Nat):bx :=
 (((w.setCell ⟨cb,0,none⟩ (.i ((m:Int)+1))).alloc (.cells #[.i k,.i n,.i p,.string s,.slice a l c] 26)).alloc (.cells #[.i 0,.n0] 54)).alloc (.cells #[.i p,.n0] 54)
def Vd{k:Int}(h:jl w cb m)(e:m+1<=300):RInv w (Zz w cb m k n p s a l c) cb (w.heap.size+1+1) (w.heap.size+1) (w.heap.size+1+1+1) (m+1) p (.n0) [] []:=by have b:=jj ((w.setCell ⟨cb,0,none⟩ (.i ((m:Int)+1))).alloc (.cells #[.i k,.i n,.i p,.string s,.slice a l c] 26)) (.cells #[.i 0,.n0] 54);have d:=jj (((w.setCell ⟨cb,0,none⟩ (.i ((m:Int)+1))).alloc (.cells #[.i k,.i n,.i p,.string s,.slice a l c] 26)).alloc (.cells #[.i 0,.n0] 54)) (.cells #[.i p,.n0] 54);simp only[yv,qX]at b d;refine⟨fF (fF (fF (dY (bM _ _) _ _ _) (kL (aK _))) (kL (aK _))) (kL (aK _)),aB (aB (aB (ka2 h))),e,d,aB b,gz.nil _ _,?_⟩;unfold Zz;simp only[yv,qX];exact qS _
def Oa(m:Nat)(k n p:Int)(s:bo)(args:aE)(h:lS k n s):oW m (.nd k n p s args)=(primBs args&&decide (m+1+sizes args<=300)):=by simp only[oW,primB,Tr.size,h,qh5,show m+(sizes args+1)=m+1+sizes args from by omega]
def Ob{args:aE}{j:Nat}(a:j<args.length)(h:oW (m+sizes (args.take j)) args[j]=false):(primBs args&&decide (m+sizes args<=300))=false:=by
 cases b:(primBs args&&decide (m+sizes args<=300))with
 | false=>rfl
 | true =>
  simp only[qu,kj,BR,kB]at b;have c:=b.1 args[j] (zd a);have d:=gH args j a;have e:=jF args (j+1);simp[oW,c]at h;omega
def qF{w0:bx}{r:Option Nat}(h:cm w0 w r)(hb:w0.heap.size<=b)(x y:cg):cm w0 (set2 w b x y) r:=by have a:=vI w b x y;exact⟨a.os.trans h.os,a.tape.trans h.tape,a.output.trans h.output,km h.size a.size,λi c d=>(a.block i (ki c h.size) oB).trans (h.block i c d)⟩
def Ro(hL:bI (· ≠ cb) w t v):∀(m:Nat) (w2:bx),Same (· ≠ cb) w w2->w.heap.size<=w2.heap.size->jl w2 cb m->m<=300 ->
 Calls prog 187 #[v,.po cb] w2 (Db m t cb w2):=by
 induction hL with
 | @mk k n p s d a c _ V hl hS ik iN ip hc hr ih =>
  intro m w2 L hz D hm
  by_cases hw:m=300\/lS k n s=false
  .refine UY m w2 D hm hl ?_ hw;simp only[oW,primB,Tr.size];rcases hw with h|h
   .simp[show ¬m+(sizes d+1)<=300 from by omega]
   .simp[h]
  have cp:m+1<=300:=od
  have ab:lS k n s:=by
   cases h:lS k n s with
   | true=>rfl
   | false=>exact absurd (.inr h) hw
  have aC:=Vd (k:=k) (n:=n) (p:=p) (s:=s) (a:=a) (l:=d.length) (c:=c) D cp;have T:=Oa m k n p s d ab;have bq:kreadT (.nd k n p s d) =.nd p (d.map kreadT):=by rw[kreadT,Kg]
  have ca:(Tr.nd k n p s d).size=sizes d+1:=by rw[Tr.size]
  simp only[lS,kj]at ab;obtain⟨rfl,rfl,cr⟩:=ab;have cz:s.toList.isEmpty:=by have:=(Lf.Au s).2 cr;rw[this];rfl
  have c1:=qf2 D;have c2:=jf3 D;have l1:cb<w2.heap.size:=qa3 D;have l2:cb<w2.heap.size+1:=od
  have l3:cb<w2.heap.size+1+1:=od
  have cx:(m:Int)+1<=300:=od
  have⟨IH,HC,HS,au,Q,ck,cl⟩:=wi ih hc L aC T bq ca;unfold maxLen at hl;clear ih hc hr L aC T bq ca D hw;unfold af;go_enter func187,ntmps187;go_wp2_with fail;go_loopw [41] (λi wr=>∃(j:Nat) (lv:cg) (vs:bk),j<=d.length/\i =.i j/\RInv w2 wr cb (w2.heap.size+1+1) (w2.heap.size+1) (w2.heap.size+1+1+1) (m+1+sizes (d.take j)) p lv ((d.take j).map kreadT) vs/\primBs (d.take j)) (λi _=>d.length - (intOf i).toNat)
  case atStart=>exact⟨0,_,_,zE _,rfl,au,by simp[primBs]⟩
  case round =>
   obtain⟨j,lv,vs,hj,rfl,x,P⟩:=hrel;have cn:∃E F,lv =.slice E (List.map kreadT (List.take j d)).length F:=by have⟨E,F,_,h,_,_⟩:=x.list.done;exact⟨E,F,h⟩
   obtain⟨E,F,rfl⟩:=cn;generalize K:(List.map kreadT (List.take j d)).length=M at *;have ad:M=vs.length:=by rw[<-K];exact x.list.len.symm
   have b0:=xq x.blk;have b1:=wy x.blk;have r0:=xq x.res;have r1:=wy x.res
   by_cases q:j<d.length
   .obtain⟨b,o,rfl,cy,k',n',p',s',a',l',c',hv,e0,e1,e2,e3,e4⟩:=(HC.out j q).same (HS.grown hz x.grown ot);have C:=x.alloc od (.cells #[.i k',.i n',.i p',.string s',.slice a' l' c'] 26);have O:=IH.out j q (m+1+sizes (d.take j)) (wr.alloc (.cells #[.i k',.i n',.i p',.string s',.slice a' l' c'] 26)) (HS.grown hz C.grown ot) (by have:=C.grown.size;omega) C.count C.small;rw[hv]at O;unfold af at O;have U:=jh O;have r:=jh C;have W:=jh P;have HQ:=jh ad;have ax:=jh K;have cD:w2.heap.size+1+1+1<=wr.heap.size:=x.hz;have cj:Hid (∀k,(Value.slice E M F).ownBlock=some k->k<wr.heap.size):=λk hk=>(zp x.list.own k hk).2;clear O C x P hv ad K;go_wp2_with fail;refine U.mono ?_;rintro e N ⟨y,cq⟩;have cC:wr.heap.size<N.heap.size:=by have:=y.size;simp at this;omega
    rcases cq with⟨z,u,rfl,Z,aO⟩|⟨z,rfl⟩
    .obtain⟨kt,A,G,B,rfl⟩:=Z.bY;have aj:m+1+sizes (d.take j)+(d[j]).size<=300:=by simp[oW]at z;exact z.2
     have I:=r.out.next y od od od aO aj
     have q0:=xq I.blk;have q1:=wy I.blk;have lq:w2.heap.size+1+1<N.heap.size:=qa3 I.blk;have cE:w2.heap.size+1+1<N.heap.size+1:=od
     have Y:=I.alloc od (.cells #[.i kt,.slice A G B] 54);have R:=Z.same (w':=N.alloc (.cells #[.i kt,.slice A G B] 54)) (λb o _ hb=>jf4 _ _ _ hb);have⟨H,cf,X,cw⟩:=JT Y R z aj;have cu:vs.length<=1000000000000:=by have h1:=HQ.out;have h2:=ax.out;have h3:=cB (d.take j);rw[qf3]at h2;omega
     have cv:w2.heap.size+1+1+1<=(N.alloc (.cells #[.i kt,.slice A G B] 54)).heap.size:=Y.hz;clear I Y Z R aO y z aj U r;unfold bY;go_wp2_with (at_builtin;refine Y4 (w2.heap.size+1+1+1) vs kt A G B (N.alloc (.cells #[.i kt,.slice A G B] 54)) (.slice E M F) rfl (.tmp 55) (.tmp 57) rfl rfl rfl (yv _ _) H.list.own cv cu ?_;intro g az w5 bm bc;have ch:=jh bm;have ar:=jh bc;clear bm bc;have cd:=jh (H.push (S:=(wr.alloc (.cells #[.i k',.i n',.i p',.string s',.slice a' l' c'] 26)).heap.size) od od od od od od oB (λk hk=>by have:=cj.out k hk;simp;omega) cf ar ch);have k5:=(ar.out.block (qa3 H.blk) (qQ H.list.own od)).trans H.blk;have m5:=wy k5;have m6:=ui k5;clear k5);have h5:RInv w2 (w5.setCell ⟨w2.heap.size+1+1,1,none⟩ (.o g (vs.length+1) az)) cb (w2.heap.size+1+1) (w2.heap.size+1) (w2.heap.size+1+1+1) (m+1+sizes (d.take (j+1))) p (.o g (vs.length+1) az) ((d.take (j+1)).map kreadT) (vs++[bY kt A G B]):=by have h:=cd.out;rw[gH d j q,<-qd6,qb2 q,qb5];exact h
     have h6:primBs (d.take (j+1)):=by have h:=X.out;have h2:=W.out;simp only[oW,qu]at h;rw[BR]at h2|-;rw[qb2 q,qe6,h2];simp[h.1]
     exact⟨⟨j+1,_,_,od,OS,h5,h6⟩,by simp[intOf];omega⟩
    .have ah:=r.out.next y (m':=0) od od od
     have f:N.heap[w2.heap.size+1]?=some (.cells #[.i 0,.n0] 54 (0,0)):=(y.block _ (qa3 r.res) oB).trans r.res;have ay:=jh f;have q0:=xq f;have q1:=wy f;have q2:=ui f;have lq:w2.heap.size+1<N.heap.size:=qa3 f;have cc:=jh (fF r.grown y);have X:=jh z;clear ah f y z U r;unfold bY;go_wp2_with fail;change bodyPost _ _ _ _ _ ((set2 N (w2.heap.size+1) (.i 0) (.n0)).alloc (.cells #[.i 0,.n0] 54));have J:=aB (o:=.cells #[.i 0,.n0] 54) (oZ ay (.i 0) (.n0));have aa:=fF (qF cc (b:=w2.heap.size+1) od (.i 0) (.n0)) (kL (aK (.cells #[.i 0,.n0] 54)));generalize (set2 N (w2.heap.size+1) (.i 0) (.n0)).alloc (.cells #[.i 0,.n0] 54)=wf at *;have z0:=xq J;have z1:=wy J;refine yb (v:=.tuple #[bY 0 none 0 0,.bool false]) (by simp[results,results187,go_sem,z0,z1,bY]) rfl ⟨aa,.inr ⟨?_,rfl⟩⟩;rw[Q.out];exact Ob q X
   .have bh:j=d.length:=by omega
    have f1:=ui x.res;have cA:w2.heap.size+1+1<wr.heap.size:=qa3 x.blk;have⟨HI,HJ,W,ax⟩:=JT x bh P K;clear x bh P ad K HC IH HS au;go_wp2_with fail;change bodyPost _ _ _ _ _ (set2 wr (w2.heap.size+1) (.i p) (.slice E M F));have J:=oZ HI.res (.i p) (.slice E M F);have aa:=qF HI.grown (b:=w2.heap.size+1) od (.i p) (.slice E M F);have bf:=vI wr (w2.heap.size+1) (.i p) (.slice E M F);generalize set2 wr (w2.heap.size+1) (.i p) (.slice E M F)=wf at *;have z0:=xq J;have z1:=wy J;refine yb (v:=.tuple #[bY p E M F,.bool true]) (by simp[results,results187,go_sem,z0,z1,bY]) rfl ⟨aa,.inl ⟨?_,_,rfl,?_,?_⟩⟩
    .have h1:=W.out;have h2:=HI.out.small;rw[HJ.out,qh4]at h1 h2;rw[Q.out,h1];simp;omega
    .have⟨a1,c1,V1,aq,ba,bb⟩:=HI.out.list.done;have e1:List.map kreadT (List.take j d)=List.map kreadT d:=by rw[HJ.out,qh4]
     rw[e1]at aq ba;simp only[e1]at bb;have bl:(List.map kreadT d).length<=maxLen:=by rw[qf3];unfold maxLen;omega
     have bp:dw (w2.heap.size+1+1+1 <= ·) wr (List.map kreadT d) a1 V1:=⟨bl,ba,bb⟩;have ai:=(bp.same (w':=wf) (λb o hb q=>qt (bf.block b q (by have : w2.heap.size+1+1+1<=b:=hb;simp;omega)))).ae (ok':=(w2.heap.size <= ·)) (λb _ hb=>by have : w2.heap.size+1+1+1<=b:=hb;show _<=b;omega);rw[ck.out];have ct:bY p E M F=bY p a1 (List.map kreadT d).length c1:=by unfold bY;rw[aq]
     rw[ct];exact aH.of ip ai (qP HI.list.own aq)
    .have h:=(bf.block cb (qa3 HI.count) oB).trans HI.count;rw[HJ.out,qh4]at h;rw[cl.out,show m+(sizes d+1)=m+1+sizes d from by omega];exact h
def fu (t:Tr):Bool:=oW 0 t&&bn (kreadT t)
def wu (t:Tr) (w:bx) (e:Ending) (w':bx):Prop :=
 cm w w' none/\((fu t/\∃u,e =.returned (.tuple #[u,.i 0])/\aH (w.heap.size <= ·) w' (kreadT t) u)\/(fu t=false/\e =.returned (.tuple #[bY 0 none 0 0,.i 1])))
def bI.grow(h:bI (· < w.heap.size) w t v)(c:cm w w' none):bI (· < w'.heap.size) w' t v :=
 (h.same (w':=w') (λb o a _=>qt (c.block b a ot))).ae (λb a _=>a)
def bI.form(h:bI ok w t v):∃k n p s a l c,v=Go.Proofs.YtgfdimkbfnpepaaGreat.af k n p s a l c/\l<=maxLen:=by
 cases h with
 | mk V b=>exact⟨_,_,_,_,_,_,_,rfl,b⟩
def Bv(hL:bI (· < w.heap.size) w t v):Calls prog 143 #[v] w (wu t w):=by
 obtain⟨k,n,p,s,a,l,c,rfl,hl⟩:=hL.form;have L:cm w (((w.alloc (.cells #[.i k,.i n,.i p,.string s,.slice a l c] 26)).alloc (.cells #[.i 0,.n0] 54)).alloc (.cells #[.i 0] 3)) none:=aJ (aK _) (aJ (aK _) (aK _));have G:jl (((w.alloc (.cells #[.i k,.i n,.i p,.string s,.slice a l c] 26)).alloc (.cells #[.i 0,.n0] 54)).alloc (.cells #[.i 0] 3)) (w.heap.size+1+1) 0:=by have:=jj ((w.alloc (.cells #[.i k,.i n,.i p,.string s,.slice a l c] 26)).alloc (.cells #[.i 0,.n0] 54)) (.cells #[.i 0] 3);simp only[yv]at this;exact this
 have V:(((w.alloc (.cells #[.i k,.i n,.i p,.string s,.slice a l c] 26)).alloc (.cells #[.i 0,.n0] 54)).alloc (.cells #[.i 0] 3)).heap[w.heap.size+1]?=some (.cells #[.i 0,.n0] 54 (0,0)):=by have:=jj (w.alloc (.cells #[.i k,.i n,.i p,.string s,.slice a l c] 26)) (.cells #[.i 0,.n0] 54);simp only[yv]at this;exact aB this
 have T:bI (· ≠ w.heap.size+1+1) (((w.alloc (.cells #[.i k,.i n,.i p,.string s,.slice a l c] 26)).alloc (.cells #[.i 0,.n0] 54)).alloc (.cells #[.i 0] 3)) t (af k n p s a l c) :=
  (hL.same (λb o m _=>qt (L.block b m ot))).ae (λb _ m=>by have : b<w.heap.size:=m;show b≠_;omega)
 have hF:=Ro T 0 _ (Same.refl _ _) (qS _) G od;have⟨aa,S,Y⟩:=we L V hF;clear hL G T L V hF;unfold maxLen at hl;unfold af at Y|-;go_enter func143,ntmps143;go_wp2_with fail;refine Y.mono ?_;rintro e O ⟨D,ah⟩;have j:O.heap[w.heap.size+1]?=_:=(D.block _ (qa3 S) ot).trans S;have C:=wG aa od D;have P:=jh j;have q2:=ui j;have q0:=xq j;have q1:=wy j;have lq:w.heap.size+1<O.heap.size:=qa3 j;rcases ah with⟨A,u,rfl,K,_⟩|⟨A,rfl⟩
 .obtain⟨F,d,g,f,rfl⟩:=K.bY;have q:aH (w.heap.size+1+1+1 <= ·) O (kreadT t) (bY F d g f):=K.ae (λb _ m=>by simp only[yv]at m;exact m);have U:=nT ((q.ae (ok':=(· < O.heap.size)) (λb m _=>m)).grow (aK (.cells #[.i F,.slice d g f] 54)));have I:=jh U;have ab:=jh q;have H:=jh C;have z:fu t=bn (kreadT t):=by simp[fu,A]
  have B:=jh z;clear U K q C D A z j Y;unfold bY at I|-;go_wp2_with fail;refine I.mono ?_;rintro e w2 ⟨rfl,y⟩;have r:w2.heap[w.heap.size+1]?=_:=(y.block _ (by rw[yv];omega) ot).trans (aB P);have aq:=ui r;have ai:=xq r;have aj:=wy r;have N:w2.heap[O.heap.size]?=some (.cells #[.i F,.slice d g f] 54 (0,0)):=(y.block _ (by rw[yv];omega) ot).trans (jj _ _);have t0:=xq N;have t1:=wy N;have⟨Q,R,Z⟩:=we r (aJ H (aJ (aK _) y)) (aJ (aK _) y);clear y r N I q0 q1 q2
  cases E:bn (kreadT t)with
  | true =>
   have J:=jh E;clear E;go_wp2_with fail;change bodyPost _ _ _ _ _ (set2 w2 (w.heap.size+1) (.i F) (.slice d g f));have h:=oZ Q (.i F) (.slice d g f);have x:=qF R (b:=w.heap.size+1) od (.i F) (.slice d g f);have ad:=vI w2 (w.heap.size+1) (.i F) (.slice d g f);generalize set2 w2 (w.heap.size+1) (.i F) (.slice d g f)=wf at *;have W:=xq h;have X:=wy h;refine yb (v:=.tuple #[bY F d g f,.i 0]) (by simp[results,results143,go_sem,W,X,bY]) rfl ⟨x,.inl ⟨by rw[B.out,J.out],_,rfl,?_⟩⟩;have h1:=ab.out.same (w':=w2) (λb o _ M=>qt (Z.block b M ot));exact (h1.same (w':=wf) (λb o m M=>qt (ad.block b M (by have : w.heap.size+1+1+1<=b:=m;simp;omega)))).ae (λb _ m=>by have : w.heap.size+1+1+1<=b:=m;show _<=b;omega)
  | false =>
   have J:=jh E;clear E;go_wp2_with fail;change bodyPost _ _ _ _ _ (set2 w2 (w.heap.size+1) (.i 0) (.n0));have h:=oZ Q (.i 0) (.n0);have x:=qF R (b:=w.heap.size+1) od (.i 0) (.n0);generalize set2 w2 (w.heap.size+1) (.i 0) (.n0)=wf at *;have W:=xq h;have X:=wy h;exact yb (v:=.tuple #[bY 0 none 0 0,.i 1]) (by simp[results,results143,go_sem,W,X,bY]) rfl ⟨x,.inr ⟨by rw[B.out,J.out],rfl⟩⟩
 .have z:fu t=false:=by simp[fu,A]
  have B:=jh z;have H:=jh C;clear z C D A j Y;unfold bY;go_wp2_with fail;change bodyPost _ _ _ _ _ ((set2 O (w.heap.size+1) (.i 0) (.n0)).alloc (.cells #[.i 0,.n0] 54));have h:=aB (o:=.cells #[.i 0,.n0] 54) (oZ P (.i 0) (.n0));have x:=aJ (qF H (b:=w.heap.size+1) od (.i 0) (.n0)) (aK (.cells #[.i 0,.n0] 54));generalize (set2 O (w.heap.size+1) (.i 0) (.n0)).alloc (.cells #[.i 0,.n0] 54)=wf at *;have W:=xq h;have X:=wy h;exact yb (v:=.tuple #[bY 0 none 0 0,.i 1]) (by simp[results,results143,go_sem,W,X,bY]) rfl ⟨x,.inr ⟨B,rfl⟩⟩
end Go.Proofs.YtgfdimkbfnpepaaGreat
namespace Go.Proofs.YtgfdimkbfnpepaaGreat.Lf
set_option linter.all false
open Go.Proofs.Tryz
set_option maxRecDepth 100000
set_option maxHeartbeats 4000000
open Go.ChangeShapes Go.WideShapes Go.ChangeAt Go.RowKit
def rP (k:Int):Bool:=decide (0<=k/\k<=3)
def gD (k:Int):Bool:=decide (1<=k/\k<=15\/20<=k/\k<=28\/40<=k/\k<=95)
def qM (k n p:Int) (s:bo) (l:Nat):Bool :=
 if k=0 then decide (p≠0\/s.size≠0\/l≠0)else if k=1 then decide (n≠0\/p≠0\/l≠0)else if k=2 then decide (n≠0\/s.size≠0)else decide (n≠0\/p≠0\/s.size≠0)
def fD (k n p:Int) (s:bo) (l:Nat):Int :=
 if rP k=false then 3 else if k=2/\gD p=false then 3 else if qM k n p s l then 1
 else if n < -1152921504606846976\/1152921504606846976<n then 2 else if 200<s.size then 4 else 0
def JH(k:Int)(w:bx) :
 Calls prog 92 #[.i k] w λe w'=>e =.returned (.bool (rP k))/\w'=w:=by
 go_enter func92,ntmps92
 go_wp2
 all_goals
  go_ret;exact kZ (by simp[rP];try omega) rfl
def rQ(k:Int)(w:bx) :
 Calls prog 93 #[.i k] w λe w'=>e =.returned (.bool (gD k))/\w'=w:=by
 go_enter func93,ntmps93
 go_wp2
 all_goals
  go_ret;refine kZ ?_ rfl;rw[qd5];simp[gD]
  try omega
def GH(k n p:Int)(s:bo)(a:bj)(l c:Nat)(w:bx)(d:l<=maxLen) :
 Calls prog 94 #[.agg #[.i k,.i n,.i p,.string s,.slice a l c]] w λe w'=>e =.returned (.bool (qM k n p s l))/\cm w w' none:=by
 unfold maxLen at d;have b:Hid (s.toList=[] ↔ s.size=0):=Au s;go_enter func94,ntmps94
 go_wp2
 all_goals
  go_ret;refine kZ ?_ (gb _);have f:=b.out;clear b;rw[qd5];simp_all [qM]
  try omega
def OO(k n p:Int)(s:bo)(a:bj)(l c:Nat)(w:bx)(d:l<=maxLen)(f:s.size<=maxLen) :
 Calls prog 63 #[.agg #[.i k,.i n,.i p,.string s,.slice a l c]] w λe w'=>e =.returned (.i (fD k n p s l))/\cm w w' none:=by
 unfold maxLen at f;go_enter func63,ntmps63;go_wp2_with (first
  | (go_at_call 92;refine (JH _ _).mono ?_;rintro e w' ⟨rfl,rfl⟩)
  | (go_at_call 93;refine (rQ _ _).mono ?_;rintro e w' ⟨rfl,rfl⟩)
  | (go_at_call 94;refine (GH _ _ _ _ _ _ _ _ d).mono ?_;rintro e w' ⟨rfl,b⟩;have g:=Qr b;have h:w.heap.size<w'.heap.size:=(by have:=b.size;simp at this;omega)))
 all_goals
  go_ret;refine lX ?_ (by first|exact gb _|exact Zt (gb _) oS);unfold fD;simp_all<;>omega
end Go.Proofs.YtgfdimkbfnpepaaGreat.Lf
namespace Go.Proofs.YtgfdimkbfnpepaaGreat
set_option linter.all false
open Go.Proofs.Tryz
set_option maxRecDepth 100000
set_option maxHeartbeats 4000000
open Go.ChangeShapes Go.WideShapes Go.ChangeAt Go.RowKit
variable {a:Act}{ops:Array Oper}{Q:Exit->Act->bx->Prop}{l:aE}{B d i:Nat}{o:Oper}{t:Tr}{v:cg}{w:bx}
mutual
def bC (d:Nat):Tr->Int
 | .nd k n p s args=>if 24<d then 4 else if Lf.fD k n p s args.length≠0 then Lf.fD k n p s args.length else bG (d+1) args
def bG (d:Nat):aE->Int
 | []=>0
 | t::ts=>if bC d t≠0 then bC d t else bG d ts
end
def dS (t:Tr):Int:=if bC 1 t≠0 then bC 1 t else if 300<t.size then 4 else 0
def xE(h:i<l.length)(a:bG d (l.take i)=0):bG d (l.take (i+1))=bC d l[i]:=by
 induction l generalizing i with
 | nil=>simp at h
 | cons t ts c =>
  cases i with
  | zero=>simp[bG];exact λh=>h.symm
  | succ i =>
   simp only[List.take_succ_cons,bG]at a|-
   by_cases b:bC d t=0
   .simp[b]at a|-;exact c (by simpa using h) a
   .simp[b]at a
def Ac(h:bG d (l.take i)≠0):bG d l=bG d (l.take i):=by
 induction l generalizing i with
 | nil=>simp
 | cons t ts b =>
  cases i with
  | zero=>simp[bG]at h
  | succ i =>
   simp only[List.take_succ_cons,bG]at h|-
   by_cases a:bC d t=0
   .simp[a]at h|-;exact b h
   .simp[a]
def Nn{cb:Nat}(hL:bI (· ≠ cb) w t v):∀(d:Nat) (m:Int) (w2:bx),Same (· ≠ cb) w w2->w.heap.size<=w2.heap.size -> 
 w2.heap[cb]?=some (.cells #[.i m] 3 (0,0))->0<=m->m+t.size<=4611686018427387904->d<=25 ->
 Calls prog 42 #[v,.i d,.po cb] w2 λe w'=>e =.returned (.i (bC d t))/\cm w2 w' (some cb) /\
  (bC d t=0->w'.heap[cb]?=some (.cells #[.i (m+t.size)] 3 (0,0))):=by
 induction hL with
 | @mk k n p s args a c _ V hl hS ik iN ip X hr ih =>
  intro d m w2 y hz E h0 hm hd;have IH:Hid (∀(i:Nat) (h:i<args.length) (d:Nat) (m:Int) (w2:bx),Same (· ≠ cb) w w2->w.heap.size<=w2.heap.size->w2.heap[cb]?=some (.cells #[.i m] 3 (0,0))->0<=m->m+(args[i]).size<=4611686018427387904->d<=25 ->
   Calls prog 42 #[V i,.i d,.po cb] w2 λe w'=>e =.returned (.i (bC d args[i]))/\cm w2 w' (some cb) /\
   (bC d args[i]=0->w'.heap[cb]?=some (.cells #[.i (m+(args[i]).size)] 3 (0,0)))):=ih
  have HC:Hid (∀i,i<args.length->ky (· ≠ cb) w a i (V i)):=X;have T:Hid (Same (· ≠ cb) w w2):=y;have P:Hid (w2.heap[cb]?=some (.cells #[.i m] 3 (0,0))):=E;have q:cb<w2.heap.size:=(qq.1 E).1;have z:(Tr.nd k n p s args).size=sizes args+1:=by rw[Tr.size]
  rw[z]at hm|-;have ab:=cB args;clear ih X hr y E z
  by_cases K:24<d
  .have S:(24:Int)<(d:Int):=by omega
   have hF:Hid (bC d (.nd k n p s args)=4):=by show _=_;rw[bC,if_pos K]
   unfold af;go_enter func42,ntmps42;go_wp2;go_ret;rw[hF.out];exact⟨rfl,kL (aK _),λh=>od⟩
  have S:(d:Int)<=24:=od
  have G:=Lf.OO k n p s a args.length c (w2.alloc (.cells #[.i k,.i n,.i p,.string s,.slice a args.length c] 26)) hl hS
  by_cases M:Lf.fD k n p s args.length=0
  .rw [M]at G;have O:Hid (bC d (.nd k n p s args)=bG (d+1) args):=by show _=_;rw[bC,oa,if_neg (by simpa using M)]
   have Q:=jh G;clear G M;unfold af;go_enter func42,ntmps42;go_wp2_with fail;refine Q.out.mono ?_;rintro e w' ⟨rfl,l⟩;have J:=Lf.Qr l;have ae:w2.heap.size<w'.heap.size:=by have:=l.size;simp at this;omega
   have g:w'.heap[cb]?=some (.cells #[.i m] 3 (0,0)):=by rw[l.block cb oB ot,qd2 (h:=q)];exact P.out
   have c1:=qf2 g;have c2:=jf3 g;have F:Hid (w'.heap[cb]?=some (.cells #[.i m] 3 (0,0))):=g;have B:Hid ((w2.alloc (.cells #[.i k,.i n,.i p,.string s,.slice a args.length c] 26)).grownBy w' none):=l;have I:w'.cell? ⟨w2.heap.size,4,none⟩=some (.slice a args.length c):=by rw[J _ _ ot];simp
   have H:∀u,(w'.setCell ⟨cb,0,none⟩ u).cell? ⟨w2.heap.size,4,none⟩=some (.slice a args.length c):=by intro u;rw[World.cell?_setCell_other _ _ _ _ (by intro h;have:=congrArg Addr.block h;simp at this;omega)];exact I
   clear g l J I;go_wp2_with fail;have G0:Hid (cm w2 (w'.setCell ⟨cb,0,none⟩ (.i (m+1))) (some cb)):=dY (kL (aJ (aK _) B.out)) _ _ _;have B0:Hid ((w'.setCell ⟨cb,0,none⟩ (.i (m+1))).heap[cb]?=some (.cells #[.i (m+1)] 3 (0,0))):=ka2 F.out;clear B F c1 c2 H;generalize hX:w'.setCell ⟨cb,0,none⟩ (.i (m+1))=wx at *;clear hX;go_loopw [26] (λi wr=>∃j:Nat,j<=args.length/\i =.i j/\cm w2 wr (some cb)/\wr.heap[cb]?=some (.cells #[.i (m+1+sizes (args.take j))] 3 (0,0))/\bG (d+1) (args.take j)=0) (λi _=>args.length - (intOf i).toNat)
   case atStart=>exact⟨0,zE _,rfl,G0.out,by simpa[sizes]using B0.out,by simp[bG]⟩
   case round =>
    obtain⟨j,hj,rfl,l,g,hF⟩:=hrel
    by_cases q:j<args.length
    .have hA:=(HC.out j q).same (T.out.grown hz l ot);obtain⟨b,o,rfl,ad,k',n',p',s',U,l',W,Z,e0,e1,e2,e3,e4⟩:=hA;have z:=gH args j q;have aa:=jF args (j+1);have A:=fF l (kL (aK (.cells #[.i k',.i n',.i p',.string s',.slice U l' W] 26)));have C:=IH.out j q (d+1) (m+1+sizes (args.take j)) (wr.alloc (.cells #[.i k',.i n',.i p',.string s',.slice U l' W] 26))
      (T.out.grown hz A ot) (by have:=A.size;omega) (by rw[qd2 (h:=(qq.1 g).1)];exact g) od od od
     rw[Z,show (((d+1:Nat)):Int)=(d:Int)+1 from rfl]at C;unfold af at C;have⟨r,B,HZ⟩:=we (xE q hF) A z;clear Z l g hF A z
     by_cases N:bC (d+1) args[j]=0
     .rw[N]at C;have R:=jh N;have HI:=jh C;clear N C;go_wp2_with fail;refine HI.out.mono ?_;rintro e w3 ⟨rfl,f,D⟩;have D:=jh (D (by first|exact trivial|rfl));have f:=jh f;go_wp2;go_roundw
      case rel=>exact⟨j+1,od,OS,fF B.out f.out,P5 D.out (by rw[HZ.out];push_cast;omega),by rw[r.out,R.out]⟩
      case measure=>simp[intOf];omega
     .have R:Hid (bG (d+1) args=bC (d+1) args[j]):=by
       show _=_;rw[Ac (i:=j+1) (by rw[r.out];exact N),r.out]
      generalize bC (d+1) args[j]=x at *;have HI:=jh C;clear C;go_wp2_with fail;refine HI.out.mono ?_;rintro e w3 ⟨rfl,f,_⟩;have f:=jh f;go_wp2;go_ret;rw[O.out,R.out];exact⟨rfl,fF B.out f.out,λh=>absurd h N⟩
    .have L:j=args.length:=by omega
     have⟨B,P,r,HJ⟩:=JT l g hF L;clear l g hF L;go_wp2;go_ret;have g:=P.out;have Y:=r.out;rw[HJ.out,qh4]at g Y;rw[O.out,Y];exact⟨rfl,B.out,λ_=>P5 g (by push_cast;omega)⟩
  .have O:Hid (bC d (.nd k n p s args)=Lf.fD k n p s args.length):=by show _=_;rw[bC,oa,if_pos (by simpa using M)]
   have Q:=jh G;clear G;generalize Lf.fD k n p s args.length=x at *;unfold af;go_enter func42,ntmps42;go_wp2_with fail;refine Q.out.mono ?_;rintro e w' ⟨rfl,l⟩;go_wp2;go_ret;rw[O.out];exact⟨rfl,kL (aJ (aK _) l),λh=>absurd h M⟩
def Bj(A:bI (· < w.heap.size) w t v)(H:t.size<=4611686018427387904) :
 Calls prog 21 #[v] w λe w'=>e =.returned (.i (dS t))/\cm w w' none:=by
 have r:∃k n p s a l c,v=af k n p s a l c:=by cases A;exact⟨_,_,_,_,_,_,_,rfl⟩
 have⟨k,n,p,s,a,l,c,r⟩:=r;have B:Same (· < w.heap.size) w ((w.alloc (.cells #[.i k,.i n,.i p,.string s,.slice a l c] 26)).alloc (.cells #[.i 0] 3)):=by intro b o d _;rw[jf4 _ _ _ oB,jf4 _ _ _ d]
 have hF:=Nn (cb:=w.heap.size+1) (((A.same B).ae (ok':=(· ≠ w.heap.size+1)) (λb _ d=>by show b≠_;have : b<w.heap.size:=d;omega))) 1 0 _ (Same.refl _ _) (qS _)
  (by have E:=jj (w.alloc (.cells #[.i k,.i n,.i p,.string s,.slice a l c] 26)) (.cells #[.i 0] 3);simpa using E) od od od
 rw[r]at hF|-;unfold af at hF|-;have q:∀w',((w.alloc (.cells #[.i k,.i n,.i p,.string s,.slice a l c] 26)).alloc (.cells #[.i 0] 3)).grownBy w' (some (w.heap.size+1))->cm w w' none:=by intro w' h;have g:cm w ((w.alloc (.cells #[.i k,.i n,.i p,.string s,.slice a l c] 26)).alloc (.cells #[.i 0] 3)) none:=aJ (aK _) (aK _);exact⟨h.os.trans g.os,h.tape.trans g.tape,h.output.trans g.output,km g.size h.size,λi C _=>(h.block i (ki C g.size) oB).trans (g.block i C ot)⟩
 have j:=jh q;rw[show ((1:Nat):Int)=1 from rfl,Int.zero_add]at hF;clear A B r q
 by_cases u:bC 1 t=0
 .have z:Hid (dS t=if 300<t.size then 4 else 0):=by show _=_;simp[dS,u]
  rw[u]at hF;have y:=jh hF;clear hF u
  by_cases D:300<t.size
  all_goals
   have F:(300:Int)<(t.size:Int)\/(t.size:Int)<=300:=od
   go_enter func21,ntmps21;go_wp2_with fail;refine y.mono ?_;rintro e w' ⟨rfl,m,d⟩;have d:=d (by first|exact trivial|rfl);have G:=qf2 d;have f:=jh m;clear m d;go_wp2;go_ret;rw[z.out];exact Lf.lX (by first|rw[if_pos D]|rw[if_neg D]) (j _ f)
 .have z:Hid (dS t=bC 1 t):=by show _=_;simp[dS,u]
  generalize bC 1 t=x at *;have y:=jh hF;clear hF;go_enter func21,ntmps21;go_wp2_with fail;refine y.mono ?_;rintro e w' ⟨rfl,m,_⟩;have f:=jh m;clear m;go_wp2;go_ret;rw[z.out];exact⟨rfl,j _ f⟩
open Go.RowKit
def YX(n:Nat)(h:n<9223372036854775808):IntKind.i64.wrap (n:Int)=(n:Int):=by have e:(n:Int) % 2 ^ 64=n:=Int.emod_eq_of_lt od od;simp only[IntKind.wrap,IntKind.bits,IntKind.signed,e];rw[if_neg];simp;omega
def ofInt64(a:Nat)(h:a<9223372036854775808):(BitVec.ofInt 64 (a:Int)).toNat=a:=by rw[BitVec.ofInt_natCast,BitVec.toNat_ofNat];exact je3 od
def tQ(a b:Nat)(c:a<9223372036854775808)(hb:b<9223372036854775808):bits .and .i64 (a:Int) (b:Int)=((a &&& b:Nat):Int):=by have d:a &&& b<2 ^ 63:=Nat.and_lt_two_pow _ od;show IntKind.i64.wrap ((BitVec.ofInt 64 (a:Int) &&& BitVec.ofInt 64 (b:Int)).toNat:Int)=_;rw[BitVec.toNat_and,ofInt64 a c,ofInt64 b hb];exact YX _ od
def oO(a b:Nat)(c:a<9223372036854775808)(hb:b<9223372036854775808):bits .or .i64 (a:Int) (b:Int)=((a ||| b:Nat):Int):=by have d:a ||| b<2 ^ 63:=Nat.or_lt_two_pow od od;show IntKind.i64.wrap ((BitVec.ofInt 64 (a:Int) ||| BitVec.ofInt 64 (b:Int)).toNat:Int)=_;rw[BitVec.toNat_or,ofInt64 a c,ofInt64 b hb];exact YX _ od
def Le(a:Nat)(h:a<9223372036854775808):bits .and .i64 (a:Int) 63=((a % 64:Nat):Int):=by have:=tQ a 63 h od;rw[show a &&& 63=a % 64 from jg6 a 6]at this;exact this
def Jc(a:Nat)(h:a<9223372036854775808):bits .and .i64 (a:Int) 127=((a % 128:Nat):Int):=by have:=tQ a 127 h od;rw[show a &&& 127=a % 128 from jg6 a 7]at this;exact this
def VZ(a:Nat)(h:a<256):bits .and .i64 (a:Int) 64=((a / 64 % 2*64:Nat):Int):=by
 have:=tQ a 64 od od;rw[show a &&& 64=a / 64 % 2*64 from by
  have : ∀x:Fin 256,x.val &&& 64=x.val / 64 % 2*64:=vA
  exact this ⟨a,h⟩]at this
 exact this
def ZH(a:Nat)(h:a<64):bits .or .i64 0 (a:Int)=(a:Int):=by have:=oO 0 a od od;rw[Nat.zero_or]at this;exact this
def Zh(a:Nat)(h:a<64):bits .or .i64 64 (a:Int)=((64+a:Nat):Int):=by have:=oO 64 a od od;rw[<-Nat.two_pow_add_eq_or_of_lt (i:=6) h 1]at this;exact this
def Yz(a:Nat)(h:a<128):bits .or .i64 (a:Int) 128=((128+a:Nat):Int):=by have:=oO a 128 od od;rw[Nat.or_comm,<-Nat.two_pow_add_eq_or_of_lt (i:=7) h 1]at this;exact this
def wD (last m:Nat):bw:=if m=0 then [last.toUInt8]else (128+last).toUInt8::wD (m % 128) (m / 128)
 termination_by m
 decreasing_by omega
def pE (n:Int):bw:=wD ((if n<0 then 64 else 0)+n.natAbs % 64) (n.natAbs / 64)
def Bd(m:Nat):∀a,1<=(wD a m).length/\(∀k,m<128 ^ k->(wD a m).length<=k+1):=by
 induction m using Nat.strongRecOn with
 | _ m c =>
  intro a;rw[wD]
  by_cases h:m=0
  .simp[h]
  .rw[if_neg h];refine⟨ot,λk b=>?_⟩
   cases k with
   | zero=>simp at b;omega
   | succ k =>
    have:=(c (m / 128) od (m % 128)).2 k (by rw[Nat.pow_succ]at b;omega);simp;omega
def xx(n:Int)(h:bD n):1<=(pE n).length/\(pE n).length<=10:=by have⟨a,b⟩:=h;have:=Bd (n.natAbs / 64) ((if n<0 then 64 else 0)+n.natAbs % 64);exact⟨this.1,this.2 9 (by show _<9223372036854775808;omega)⟩
def info5:(prog.info? 5).map (λi=>(i.zero,i.size,i.bytes))=some (some (.int .u8 0),1,1):=oA
def cs (l:bw):bk:=l.map λb=>Value.int .u8 b.toNat
def Nb(l:bw):(cs l).length=l.length:=by simp[cs]
def Dj(a b:bw):cs (a++b)=cs a++cs b:=by simp[cs]
def om (B:Nat) (w:bx) (v:cg) (l:bw):Prop:=w.ownsRow B 5 1 v l.length (cs l)
def om.drew{l:bw}(h:om B w v l):om B w.drew v l:=h
def Gr.below{a:bx}{e:cg}{l:bw}(h:Gr w v a e)(d:om B w v l)(b:B<=w.heap.size):Below B w a :=
 (Below.refl B w).grown h.1 b (λk c=>(zp d k c).1)
def app1{rest:List Oper}(B:Nat)(pre:bw)(b:UInt8)(z:Int)(w0:bx)(v:cg)(e:o.guard=none)(s x:Operand)
 (ho:o.op =.call { callee:=.builtin .append,args:=#[s,x],argTypes:=#[222,222] }) (hs:a.eval s=v) {H:Nat} (hx:a.eval x =.o H 1 1) (hH:w0.heap.size=H)
 (hz:z=b.toNat) (hown:om B w0 v pre) (hB:B<=w0.heap.size) (hlen:pre.length<=10000000)
 (h:∀v' w',om B w' v' (pre++[b])->Gr w0 v w' v'->wpList prog ops Q rest (a.put o.dst v') w'):wpList prog ops Q (o::rest) a (w0.alloc (.cells #[.int .u8 z] 5)):=by
 have⟨r,q,f,i,k⟩:=ja0 info5;subst hz;subst hH;refine je5 _ e s x 222 ho B 5 r (.int .u8 0) 1 1 underlying222 q f i k rfl ov v pre.length (cs pre) hs (ue hown _) ⟨w0.heap.size,0,none⟩ 1 1 [.int .u8 b.toNat] hx rfl ?_ ?_ ov ?_ ?_ ?_ _ rfl ?_
 .intro j u d
  match j,d with
  | 0,d=>simp at d;subst d;simp[Addr.add]
 .intro u l;simp at l;subst l;rfl
 .unfold maxLen;omega
 .omega
 .simp;omega
 .intro g m w' n p c _;refine h _ w' ?_ ?_
  .unfold om;rw[Dj,qT];exact n
  .refine Gr.trans (Gr.alloc (Gr.refl w0 v) _) ⟨p,?_⟩;rcases c with c|c
   .exact .inl c.symm
   .exact .inr ⟨g,rfl,od⟩
def Xa(s:bo):Lib.strCells s=cs s.data.toList:=rfl
def Cf(B:Nat)(ty:TypeId)(v:cg)(pre:bw)(s:bo)(w:bx)(b:om B w v pre)(G:0<pre.length)(q:pre.length+s.size<=10000000)(y:B<=w.heap.size) :
 ∃v' w',(Builtin.append_ #[222,9] ty #[v,.string s]).run prog w =.ok v' w'/\om B w' v' (pre++s.data.toList)/\Gr w v w' v':=by
 have⟨p,l,f,e,h⟩:=ja0 info5;have⟨v',w',n,t,x,_⟩:=Lib.run_append_own_string (P:=prog) w B 222 9 ty 5 p underlying222 underlying9 l f e h v pre.length (cs pre) b s On od y;refine⟨v',w',n,?_,x,?_⟩
 .unfold om;rw[Dj,qT,<-Xa];exact t
 .have m:=b;unfold om at m;rcases m.2 with⟨rfl,F⟩|⟨g,c,i,rfl,z,D,E,A,C,o⟩
  .omega
  .by_cases d:pre.length+s.size<=c
   .have a:=Lib.run_append_room_string (P:=prog) w 222 9 ty 5 p underlying222 underlying9 l e g pre.length c i D s d od;rw[n]at a;injection a with k r;subst k;exact .inl rfl
   .have holds:∀j u,(cs pre)[j]?=some u->w.cell? ((⟨g,0,none⟩:Addr).add j)=some u:=qb0 m (g:=g) rfl;have a:=Lib.run_append_grow_string (P:=prog) w 222 9 ty 5 p (.int .u8 0) underlying222 underlying9 l f ⟨g,0,none⟩ pre.length c (cs pre) (by rw[e,Nb,Nat.mul_one]) holds s od od (by rw[h];exact growslice_fits od od);rw[n]at a;injection a with k r;subst k;exact .inr ⟨_,rfl,qS _⟩
def Ai{K:Act->bx->Prop}{E:Prop}(B:Nat)(pre:bw)(s:bo)(w:bx)(v:cg)(b:o.guard=none)(sl x:Operand)
 (ho:o.op =.call { callee:=.builtin .append,args:=#[sl,x],argTypes:=#[222,9] }) (hs:a.eval sl=v) (hx:a.eval x =.string s)
 (hown:om B w v pre) (hp:0<pre.length) (hlen:pre.length+s.size<=10000000) (hB:B<=w.heap.size)
 (h:∀v' w',om B w' v' (pre++s.data.toList)->Gr w v w' v'->K (a.put o.dst v') w') :
 if Region.wanted o (yielded ops a.tmps)then Oper.wp prog o a w K Q else E:=by
 have f:Region.wanted o (yielded ops a.tmps):=by simp[Region.wanted,b]
 rw[if_pos f];have⟨v',w',e,c,d⟩:=Cf B o.type v pre s w hown hp hlen hB;unfold Oper.wp execOp;simp only[ho,resolve,invoke,builtin,qa7,jd6,Result.andThen_ok,List.map_toArray,qc3,jb3,hs,hx,e];exact h v' w' c d
def qf(B:Nat)(n:Int)(hn:bD n)(P:-9223372036854775808<n)(v:cg)(xs:bw)(w:bx)(f:om B w v xs)(W:B<=w.heap.size)(K:xs.length<=1000000) :
 Calls prog 221 #[v,.i n] w λe w'=>∃v',e =.returned v'/\om B w' v' (xs++pE n)/\Gr w v w' v':=by
 have⟨T,U⟩:=hn;have⟨i0,Y,Q,R,S⟩:=ja0 info5;have C:∃a m:Nat,a<128/\m<9223372036854775808/\pE n=wD a m/\(n<0->bits .or .i64 64 (bits .and .i64 (-n) 63)=(a:Int) /\ -n / 64=(m:Int))/\(¬n<0->bits .or .i64 0 (bits .and .i64 n 63)=(a:Int)/\n / 64=(m:Int)):=by
  refine⟨_,_,?_,?_,rfl,λh=>?_,λh=>?_⟩
  .split<;>omega
  .omega
  .have e:-n=(n.natAbs:Int):=by omega
   rw[e,Le _ od,Zh _ od,if_pos h];exact⟨rfl,od⟩
  .have e:n=(n.natAbs:Int):=by omega
   rw[e,Le _ od,ZH _ od,oa];exact⟨ot,od⟩
 have⟨c,D,N,O,J,r,q⟩:=C;have F:=jh J;clear J;have M:=xx n ⟨T,U⟩;rw[F.out]at M|-;rcases (show (n<0/\bits .or .i64 64 (bits .and .i64 (-n) 63)=(c:Int) /\ -n / 64=(D:Int))\/(0<=n/\bits .or .i64 0 (bits .and .i64 n 63)=(c:Int)/\n / 64=(D:Int)) from by
  by_cases h:n<0
  .exact .inl ⟨h,r h⟩
  .exact .inr ⟨od,q h⟩)with⟨s,H,I⟩|⟨s,H,I⟩
 all_goals
  clear r q;go_enter func221,ntmps221;go_wp2_with fail;clear H I F;go_loopw [0,6,1] (λL l n wr=>∃(d:bw) (a m:Nat),a<128/\m<9223372036854775808/\l =.i a/\n =.i m/\d++wD a m=xs++wD c D/\om B wr L d/\Gr w v wr L) (λ_ _ n _=>(intOf n).toNat)
  case atStart=>exact⟨xs,_,_,N,O,rfl,rfl,rfl,f,Gr.refl _ _⟩
  case round =>
   obtain⟨d,a,m,y,A,rfl,rfl,j,b,x⟩:=hrel;have k:=congrArg List.length j;simp only[qT]at k;have hz:=x.1.size;have⟨G,HO,E⟩:=we j b x;clear j b x f
   by_cases o:m=0
   .have p:¬(0:Int)<(m:Int):=by omega
    have z:=(Bd m a).1;have t:((a:Nat):Int)=(a.toUInt8).toNat:=by rw[show a.toUInt8.toNat=a % 256 from rfl,je3 od]
    have u:=jh t;clear t;go_wp2_with (at_builtin;refine app1 B d a.toUInt8 _ wr _ rfl _ _ rfl rfl rfl rfl u HO od od ?_;intro v' V b g);go_ret;refine⟨v',rfl,?_,E.trans g⟩;have:=G.out;rw[wD,if_pos o]at this;rw[<-this];exact b
   .have p:(0:Int)<(m:Int):=by omega
    have Z:=Yz a y;have X:=Jc m A;have z:=(Bd m a).1;have t:(128+(a:Nat):Int)=((128+a).toUInt8).toNat:=by rw[show (128+a).toUInt8.toNat=(128+a) % 256 from rfl,je3 od];rfl
    have u:=jh t;clear t;go_wp2_with (at_builtin;refine app1 B d (128+a).toUInt8 _ wr _ rfl _ _ rfl rfl rfl rfl u HO od od ?_;intro v' V b g);go_roundw
    case rel=>exact⟨d++[(128+a).toUInt8],m % 128,m / 128,od,od,OS,OS,by have:=G.out;rw[wD,if_neg o]at this;simpa using this,b,E.trans g⟩
    case measure=>simp[intOf];omega
