import Derived.Lib.AppendZeros
import Derived.Test.YtgfdimkbfnpepaaGreatKpZab
import Derived.Lib.AppendStr
namespace Go.Proofs.YtgfdimkbfnpepaaGreat
set_option linter.all false
open Go.Proofs.Tryz
set_option maxRecDepth 100000
set_option maxHeartbeats 4000000
open Go.ChangeShapes Go.WideShapes Go.ChangeAt Go.RowKit
variable {s:ByteArray}{n p:Int}{ts:List Ty}{vs:List Value}{H b c cb k l m o rb tb:Nat}{ok:Nat->Prop}{V:Nat->Value}{a:Option Addr}{t:Tr}{T:Ty}{lv u v:Value}{W w w' w2:World}
def zG{P:Program}(w:World)(t m ty e:TypeId)(k p:IntKind)(z:Value)(a b:Nat)(c:(P.info? e).map (λi=>(i.zero,i.size,i.bytes))=some (some z,a,b))(v:P.underlying t=some (.slice e))(h:P.underlying m=some (.int p))
 (n:Nat) (h0:0<n) (hs:0<a) (hzs:z.cells.size=a) (hn:n<=1000000000) (hb:b<=1000) :
 ∃g cap w',(Builtin.append_ #[t,m] ty #[.n0,.int k n]).run P w =.ok (.slice (some ⟨g,0,none⟩) n cap) w'/\w'.ownsRow w.heap.size e a (.slice (some ⟨g,0,none⟩) 0 cap) 0 []/\w.grownBy w' none/\n<=cap/\cap<=9223372036854775807:=by
 obtain⟨o,r,j,x,l⟩:=qg1 c;have q:n*o.bytes<=1000000000*1000:=by rw[l];exact Nat.mul_le_mul hn hb
 have u:=Lib.run_append_nil_zeros w t m ty e o z k p v h r j n h0 od od od;have f:=grownCap_ge w n 0 e;have d:grownCap w n 0 e<=maxLen:=grownCap_le_maxLen w n 0 e oT;refine⟨_,_,_,u,⟨ot,.inr ⟨w.heap.size,_,_,rfl,qv _,qT w.drew _,kB _,d,?_,ot⟩⟩,⟨rfl,rfl,rfl,ot,λk s _=>qb1 w.drew _ s⟩,f,by unfold maxLen at d;omega⟩;simp only[Array.size_append,size_zeroCells,hzs,<-jb0]
 congr 1
 omega
def Qx:(prog.info? 36).map (λi=>(i.zero,i.size,i.bytes))=some (some (.agg #[.i 0,.i 0,.i 0,.string ⟨#[]⟩,.n0,.n0,.n0]),7,112):=oA
def DC(n:Nat)(p:n<=20000000)(W:World) :
 Calls prog 195 #[.n0,.i n] W λe w'=>∃v,e =.returned v/\w'.ownsRow W.heap.size 36 7 v 0 []/\W.grownBy w' none:=by
 have k:(n:Int)<=20000000:=od
 have j:¬(n:Int)<0:=od
 by_cases h:n=0
 .subst h;go_enter func195,ntmps195;go_wp2_with fail;go_ret;exact⟨_,rfl,qa2 _ _ _ _,bM _ _⟩
 .obtain⟨g,f,q,m,b,a,o,l⟩:=zG W 28 3 28 36 .i64 .i64 _ 7 112 Qx underlying28 underlying3 n od ov rfl od ov;have c:(n:Int) > 0:=by omega
  have HO:=jh b;have d:=jh a;clear b a;go_enter func195,ntmps195;go_wp2_with (at_builtin;refine Lib.wpList_append_run _ rfl _ _ _ _ rfl _ _ rfl rfl _ _ m ?_);go_ret;exact⟨_,rfl,HO,d⟩
def dw.drop(h:dw ok w ts (some ⟨b,o,none⟩) V)(k:Nat):dw ok w (ts.drop k) (some ⟨b,o+k*2,none⟩) (λi=>V (i+k)):=by
 refine⟨by have:=h.1;simp;omega,λi d=>?_,λi d=>?_⟩
 .have a:i+k<ts.length:=by simp at d;omega
  obtain⟨p,q,e,m,t,f,l,c,n,g,j⟩:=h.2.1 (i+k) a;simp only[qk,qb2,and_true]at e;obtain⟨rfl,rfl⟩:=e;refine⟨b,o+k*2,rfl,m,t,f,l,c,n,?_,?_⟩
  .rw[show o+k*2+i*2=o+(i+k)*2 from by omega];exact g
  .rw[show o+k*2+i*2+1=o+(i+k)*2+1 from by omega];exact j
 .have a:i+k<ts.length:=by simp at d;omega
  have:=h.2.2 (i+k) a;rw[List.getElem_drop];simpa[Nat.add_comm]using this
def dw.take(h:dw ok w ts a V)(k:Nat):dw ok w (ts.take k) a V:=by refine⟨by have:=h.1;simp;omega,λi b=>h.2.1 i (by simp at b;omega),λi b=>?_⟩;rw[List.getElem_take];exact h.2.2 i (by simp at b;omega)
def dw.base(h:dw ok w ts a V)(c:0<ts.length):∃b o,a=some ⟨b,o,none⟩:=by obtain⟨b,o,e,_⟩:=h.2.1 0 c;exact⟨b,o,e⟩
def aH.ofRow{t:Int}{args:List Ty}(d:bD t)(b:args.length<=c)(h:dw ok w args a V):aH ok w (.nd t args) (Go.Proofs.YtgfdimkbfnpepaaGreat.bY t a args.length c) :=
 .mk V h.1 b d h.2.1 h.2.2
def jo (w:World) (ts:List Ty) (u:Value):Prop:=∃a c V,u =.slice a ts.length c/\ts.length<=c/\dw (λ_=>True) w ts a V
def jo.grow(h:jo w ts u)(f:w.grownBy W none):jo W ts u:=by obtain⟨a,c,V,e,b,d⟩:=h;exact⟨a,c,V,e,b,d.same (ni f)⟩
def ZK(h:Hid (jo w ts u))(g:w.grownBy W none):Hid (jo W ts u):=h.out.grow g
def jo.nil(w:World)(a:Option Addr)(c:Nat):jo w [] (.slice a 0 c):=⟨a,c,λ_=>.i 0,rfl,kB _,dw.nil _ _ _ _⟩
def aH.args{t:Int}(h:aH (λ_=>True) w T (Go.Proofs.YtgfdimkbfnpepaaGreat.bY t a l c)):T.t=t/\jo w T.args (.slice a l c):=by have d:=h.cap;obtain⟨g,i,V,e,_,f⟩:=h.inv;simp only[Go.Proofs.YtgfdimkbfnpepaaGreat.bY,qb3,qc1,xj,qg5,ke,true_and,and_true]at e;obtain⟨b,rfl,rfl,rfl⟩:=e;exact⟨b.symm,_,_,V,rfl,d,f⟩
def jo.cons(h:jo w (T::ts) u):∃b o c t a l k,u =.slice (some ⟨b,o,none⟩) (ts.length+1) c/\ts.length+1<=c/\w.cell? ⟨b,o,none⟩=some (.i t)/\w.cell? ⟨b,o+1,none⟩=some (.slice a l k)/\aH (λ_=>True) w T (Go.Proofs.YtgfdimkbfnpepaaGreat.bY t a l k):=by obtain⟨p,c,V,e,j,f⟩:=h;obtain⟨b,o,rfl,_,t,a,l,k,n,g,m⟩:=f.2.1 0 ot;have d:=f.2.2 0 ot;rw[n]at d;exact⟨b,o,c,t,a,l,k,e,by simpa using j,by simpa using g,by simpa using m,d⟩
def jo.len(h:jo w ts (.slice a l c)):l=ts.length/\ts.length<=c/\ts.length<=maxLen:=by obtain⟨f,g,V,e,b,d⟩:=h;simp only[ke]at e;obtain⟨rfl,rfl,rfl⟩:=e;exact⟨rfl,b,d.1⟩
def jo.form(h:jo w ts u):∃a c,u =.slice a ts.length c/\ts.length<=c/\ts.length<=9223372036854775807:=by obtain⟨b,d,V,e,f,g⟩:=h;exact⟨b,d,e,f,by have:=g.1;unfold maxLen at this;omega⟩
def jo.drop(h:jo w ts (.slice (some ⟨b,o,none⟩) l c))(k:Nat)(hk:k<=ts.length):jo w (ts.drop k) (.slice (some ⟨b,o+k*2,none⟩) (l - k) (c - k)):=by obtain⟨d,f,V,e,g,a⟩:=h;simp only[ke]at e;obtain⟨rfl,rfl,rfl⟩:=e;exact⟨_,_,_,by rw[List.length_drop],by rw[List.length_drop];omega,a.drop k⟩
def jo.take(h:jo w ts (.slice a l c))(k b:Nat)(hk:k<=ts.length)(j:k<=b):jo w (ts.take k) (.slice a k b):=by obtain⟨f,g,V,e,i,d⟩:=h;simp only[ke]at e;obtain⟨rfl,rfl,rfl⟩:=e;exact⟨_,_,V,by rw[qf6,Nat.min_eq_left hk],vi,d.take k⟩
def jo.one{t:Int}(d:w.heap[b]?=some (.cells #[.i t,.slice a l k] 54 (0,0)))(e:aH (λ_=>True) w T (Go.Proofs.YtgfdimkbfnpepaaGreat.bY t a l k)):jo w [T] (.slice (some ⟨b,0,none⟩) 1 1):=by
 refine⟨_,_,λ_=>Go.Proofs.YtgfdimkbfnpepaaGreat.bY t a l k,rfl,ot,OS,λi c=>?_,λi c=>?_⟩
 .have : i=0:=by simpa using c
  subst this;exact⟨b,0,rfl,trivial,t,a,l,k,rfl,xq d,wy d⟩
 .have : i=0:=by simpa using c
  subst this;exact e
def jo.two{t f:Int}{c:Option Addr}{l2 e:Nat}{U:Ty}(d:w.heap[b]?=some (.cells #[.i t,.slice a l k,.i f,.slice c l2 e] 54 (0,0)))(h:aH (λ_=>True) w T (Go.Proofs.YtgfdimkbfnpepaaGreat.bY t a l k))(j:aH (λ_=>True) w U (Go.Proofs.YtgfdimkbfnpepaaGreat.bY f c l2 e)):jo w [T,U] (.slice (some ⟨b,0,none⟩) 2 2):=by
 refine⟨_,_,λi=>if i=0 then Go.Proofs.YtgfdimkbfnpepaaGreat.bY t a l k else Go.Proofs.YtgfdimkbfnpepaaGreat.bY f c l2 e,rfl,ot,OS,λi g=>?_,λi g=>?_⟩
 .rcases (show i=0\/i=1 by simp at g;omega)with rfl|rfl
  .exact⟨b,0,rfl,trivial,t,a,l,k,rfl,by simp[World.cell?,d],by simp[World.cell?,d]⟩
  .exact⟨b,0,rfl,trivial,f,c,l2,e,rfl,by simp[World.cell?,d],by simp[World.cell?,d]⟩
 .rcases (show i=0\/i=1 by simp at g;omega)with rfl|rfl
  .exact h
  .exact j
def addr_add(b o j:Nat):(⟨b,o,none⟩:Addr).add j=⟨b,o+j,none⟩:=by
 unfold Addr.add
 by_cases h:j=0
 .subst h;rfl
 .rw[if_neg h]
def dw.src(h:dw (λ_=>True) w ts a V)(c:Nat):∃vs:List Value,vs.length=ts.length/\gZ w (.slice a ts.length c) ts.length (bX vs)/\(bX vs).length=ts.length*2/\(∀u∈bX vs,u.oneCell'=true)/\∀(i:Nat) (t:Ty) (u:Value),ts[i]?=some t->vs[i]?=some u->aH (λ_=>True) w t u:=by
 let vs:=(List.range ts.length).map V
 have f:vs.length=ts.length:=by simp[vs]
 have n:∀i,i<ts.length->vs[i]?=some (V i):=λi g=>by simp[vs,g]
 have C:∀i,i<ts.length->∃t m l k,V i=Go.Proofs.YtgfdimkbfnpepaaGreat.bY t m l k:=λi g=>by obtain⟨_,_,_,_,t,m,l,k,D,_⟩:=h.2.1 i g;exact⟨t,m,l,k,D⟩
 have E:∀u∈vs,∃t m l k,u=Go.Proofs.YtgfdimkbfnpepaaGreat.bY t m l k:=λu d=>by simp only[vs,qa7,List.mem_range]at d;obtain⟨i,g,rfl⟩:=d;exact C i g
 have p:∀u∈vs,(tyCells u).length=2:=λu d=>by obtain⟨t,m,l,k,rfl⟩:=E u d;rfl
 have v:∀(s:List Value),(∀u∈s,(tyCells u).length=2)->(bX s).length=s.length*2:=λs=>by
  induction s with
  | nil=>intro _;rfl
  | cons x s J =>
   intro z;have K:=z x ot;have A:=J (λu d=>z u (by simp[d]));simp only[bX,qd5,qS,jn]at A|-;omega
 refine⟨vs,f,?_,by rw[v vs p,f],λu d=>?_,λi t u y d=>?_⟩
 .cases a with
  | none =>
   have B:ts.length=0:=by
    rcases Nat.eq_zero_or_pos ts.length with e|e
    .exact e
    .obtain⟨b,o,A⟩:=h.base e;cases A
   exact .inl ⟨c,by rw[B],B,by rw[ju (f.trans B)];rfl⟩
  | some F =>
   refine .inr ⟨F,c,rfl,λj u d=>?_⟩;have I:j<(bX vs).length:=(jj.1 d).1;rw[v vs p,f]at I;have g:j / 2<ts.length:=od
   obtain⟨b,o,e,_,t,m,l,k,D,G,H⟩:=h.2.1 (j / 2) g;have r:=flatT_get vs p (j / 2) (j % 2) (V (j / 2)) (n _ g) od;rw[show j / 2*2+j % 2=j from by omega,d,D]at r;simp only[qk]at e;subst e;rcases (show j % 2=0\/j % 2=1 by omega)with q|q
   .rw[q]at r;simp[tyCells,Go.Proofs.YtgfdimkbfnpepaaGreat.bY]at r;rw[r,<-G];rw[addr_add,show o+j=o+j / 2*2 from by omega]
   .rw[q]at r;simp[tyCells,Go.Proofs.YtgfdimkbfnpepaaGreat.bY]at r;rw[r,<-H];rw[addr_add,show o+j=o+j / 2*2+1 from by omega]
 .simp only[bX,jh2]at d;obtain⟨x,z,d⟩:=d;obtain⟨t,m,l,k,rfl⟩:=E x z;simp[tyCells,Go.Proofs.YtgfdimkbfnpepaaGreat.bY]at d;rcases d with rfl|rfl<;>rfl
 .have g:i<ts.length:=(jj.1 y).1;rw[n i g]at d;rw[qt g]at y;simp only[qk]at y d;subst y;subst d;exact h.2.2 i g
def gZ.grow{xv:Value}{a:List Value}(h:gZ w xv m a)(e:w.grownBy w' none):gZ w' xv m a:=by
 rcases h with h|⟨d,c,rfl,h⟩
 .exact .inl h
 .refine .inr ⟨d,c,rfl,λj u f=>?_⟩;have b:=h j u f;exact (qn (e.block _ (kd w _ b) ot)).trans b
structure FL (W w:World) (v:Value) (ts:List Ty) (vs:List Value):Prop where
 own:wS W.heap.size w v vs
 len:vs.length=ts.length
 lies:∀(i:Nat) (t:Ty) (u:Value),ts[i]?=some t->vs[i]?=some u->aH (λ_=>True) W t u
def FL.more{v':Value}{us:List Ty}{ns:List Value}(h:FL W w v ts vs)(e:wS W.heap.size w' v' (vs++ns))(d:ns.length=us.length)(f:∀(i:Nat) (t:Ty) (u:Value),us[i]?=some t->ns[i]?=some u->aH (λ_=>True) W t u):FL W w' v' (ts++us) (vs++ns):=by
 refine⟨e,by simp[h.len,d],λi t u a b=>?_⟩
 by_cases c:i<ts.length
 .rw[jt c]at a;rw[jt (by rw[h.len];exact c)]at b;exact h.lies i t u a b
 .rw[js od]at a;rw[js (by rw[h.len];omega),h.len]at b;exact f _ t u a b
def FL.done(h:FL W w v ts vs)(s:W.grownBy w none):jo w ts v:=by
 have y:=h.len;have x:gz 0 w v ts vs:=by
  refine⟨?_,h.len,λi t u z A=>?_⟩
  .obtain⟨l,k⟩:=h.own;refine⟨l,?_⟩;rcases k with k|⟨g,f,j,e,_,q⟩
   .exact .inl k
   .exact .inr ⟨g,f,j,e,kB _,q⟩
  .have d:=(h.lies i t u z A).ae (ok':=(· < W.heap.size)) (λb d _=>d);refine (d.same (w':=w) (λb o d _=>qn (s.block b d ot))).ae (λb _ d=>⟨kB _,λe=>?_⟩);have q:=(kp h.own b e.symm).1;have : b<W.heap.size:=d;omega
 obtain⟨a,c,V,e,l,k⟩:=x.done;have r:ts.length<=maxLen/\ts.length<=c:=by
  rcases h.own.2 with⟨n,p⟩|⟨g,f,j,n,_,_,D,E,_⟩
  .rw[y]at p;rw[p];exact⟨kB _,kB _⟩
  .rw[n]at e;simp only[ke]at e;obtain⟨_,B,C⟩:=e;exact⟨od,od⟩
 exact⟨a,c,V,e,r.2,r.1,λi m=>(l i m).ae (λ_ _ _=>trivial),λi m=>(k i m).ae (λ_ _ _=>trivial)⟩
def Nw(n:Nat)(p:n<=20000000)(W:World) :
 Calls prog 146 #[.n0,.i n] W λe w'=>∃v,e =.returned v/\w'.ownsRow W.heap.size 54 2 v 0 []/\W.grownBy w' none:=by
 have k:(n:Int)<=20000000:=od
 have j:¬(n:Int)<0:=od
 by_cases h:n=0
 .subst h;go_enter func146,ntmps146;go_wp2_with fail;go_ret;exact⟨_,rfl,qa2 _ _ _ _,bM _ _⟩
 .obtain⟨g,f,q,m,b,a,o,l⟩:=zG W 27 3 27 54 .i64 .i64 _ 2 32 rO underlying27 underlying3 n od ov rfl od ov;have c:(n:Int) > 0:=by omega
  have HO:=jh b;have d:=jh a;clear b a;go_enter func146,ntmps146;go_wp2_with (at_builtin;refine Lib.wpList_append_run _ rfl _ _ _ _ rfl _ _ rfl rfl _ _ m ?_);go_ret;exact⟨_,rfl,HO,d⟩
def lS (k n:Int) (s:ByteArray):Bool:=decide (k=2/\n=0/\s.size=0)
mutual
def primB:Tr->Bool
 | .nd k n _ s args=>lS k n s&&primBs args
def primBs:List Tr->Bool
 | []=>true
 | t::ts=>primB t&&primBs ts
end
mutual
def kreadT:Tr->Ty
 | .nd _ _ p _ args=>.nd p (kreadTs args)
def kreadTs:List Tr->List Ty
 | []=>[]
 | t::ts=>kreadT t::kreadTs ts
end
def Kg(l:List Tr):kreadTs l=l.map kreadT:=by
 induction l with
 | nil=>rfl
 | cons t ts a=>simp[kreadTs,a]
def BR(l:List Tr):primBs l=l.all primB:=by
 induction l with
 | nil=>rfl
 | cons t ts a=>simp[primBs,a]
def oW (m:Nat) (t:Tr):Bool:=primB t&&decide (m+t.size<=300)
def Db (m:Nat) (t:Tr) (cb:Nat) (w2:World) (e:Ending) (w':World):Prop :=
 w2.grownBy w' (some cb)/\((oW m t=true/\∃u,e =.returned (.tuple #[u,.bool true])/\aH (w2.heap.size <= ·) w' (kreadT t) u/\jl w' cb (m+t.size)) \/
  (oW m t=false/\e =.returned (.tuple #[bY 0 none 0 0,.bool false])))
def set2 (w:World) (b:Nat) (x y:Value):World:=(w.setCell ⟨b,0,none⟩ x).setCell ⟨b,1,none⟩ y
def oZ{x0 a:Value}{T:TypeId}(h:w.heap[b]?=some (.cells #[x0,a] T (0,0)))(x y:Value):(set2 w b x y).heap[b]?=some (.cells #[x,y] T (0,0)):=by unfold set2;have c:=heap_setCell_same w b 0 #[x0,a] T x h;have d:=heap_setCell_same (w.setCell ⟨b,0,none⟩ x) b 1 _ T y c;simpa using d
def vI(w:World)(b:Nat)(x y:Value):w.grownBy (set2 w b x y) (some b):=dY (dY (bM _ _) _ _ _) _ _ _
def UY{k:Int}(m:Nat)(d:World)(b:jl d cb m)(B:m<=300)(u:l<=maxLen)(r:oW m t=false)(e:m=300\/lS k n s=false) :
 Calls prog 187 #[af k n p s a l c,.pointer (some ⟨cb,0,none⟩)] d (Db m t cb d):=by
 have w:Hid (s.toList=[] ↔ s.size=0):=Lf.Au s;have z:=qd4 b;have A:=jd6 b;have C:cb<d.heap.size:=ux b;have D:cb<d.heap.size+1:=od
 have E:cb<d.heap.size+1+1:=od
 have f:=jh r;clear b r;unfold af
 by_cases j:m=300
 .have i:(300:Int)<(m:Int)+1:=by omega
  clear e;go_enter func187,ntmps187;go_wp2_with fail;refine zv (v:=.tuple #[bY 0 none 0 0,.bool false]) ZD rfl ⟨?_,.inr ⟨f,rfl⟩⟩;exact fF (fF (dY (bM _ _) _ _ _) (kL (aK _))) (kL (aK _))
 .have i:(m:Int)+1<=300:=by omega
  have g:lS k n s=false:=by
   rcases e with h|h
   .exact absurd h j
   .exact h
  have o:¬(k=2/\n=0/\s.size=0):=by simpa[lS]using g
  rcases (show k≠2\/(k=2/\n≠0)\/(k=2/\n=0/\s.size≠0) from by omega)with h|⟨rfl,h⟩|⟨rfl,rfl,h⟩
  .have q:(k==2)=false:=by simpa using h
   clear e g o;go_enter func187,ntmps187;go_wp2_with fail;refine zv (v:=.tuple #[bY 0 none 0 0,.bool false]) ZD rfl ⟨?_,.inr ⟨f,rfl⟩⟩;exact fF (fF (dY (bM _ _) _ _ _) (kL (aK _))) (kL (aK _))
  .have q:(n==0)=false:=by simpa using h
   clear e g o;go_enter func187,ntmps187;go_wp2_with fail;refine zv (v:=.tuple #[bY 0 none 0 0,.bool false]) ZD rfl ⟨?_,.inr ⟨f,rfl⟩⟩;exact fF (fF (dY (bM _ _) _ _ _) (kL (aK _))) (kL (aK _))
  .have q:s.toList.isEmpty=false:=by
    have:=w.out
    cases u:s.toList with
    | nil=>exact absurd (this.1 u) h
    | cons x y=>rfl
   clear e g o w;go_enter func187,ntmps187;go_wp2_with fail;refine zv (v:=.tuple #[bY 0 none 0 0,.bool false]) ZD rfl ⟨?_,.inr ⟨f,rfl⟩⟩;exact fF (fF (dY (bM _ _) _ _ _) (kL (aK _))) (kL (aK _))
structure RInv (w2 w:World) (cb tb rb H m:Nat) (p:Int) (lv:Value) (ts:List Ty) (vs:List Value):Prop where
 grown:w2.grownBy w (some cb)
 count:jl w cb m
 small:m<=300
 blk:w.heap[tb]?=some (.cells #[.i p,lv] 54 (0,0))
 res:w.heap[rb]?=some (.cells #[.i 0,.n0] 54 (0,0))
 list:gz H w lv ts vs
 hz:H<=w.heap.size
def RInv.next{m':Nat}(h:RInv w2 w cb tb rb H m p lv ts vs)(a:w.grownBy w' (some cb))(f:tb≠cb)(e:rb≠cb)(b:cb<H)(c:jl w' cb m')(d:m'<=300):RInv w2 w' cb tb rb H m' p lv ts vs :=
 ⟨fF h.grown a,c,d,(a.block _ (ux h.blk) (by simpa using f)).trans h.blk,(a.block _ (ux h.res) (by simpa using e)).trans h.res,h.list.keep a b,kh h.hz a.size⟩
def RInv.alloc(h:RInv w2 w cb tb rb H m p lv ts vs)(a:cb<H)(o:Obj):RInv w2 (w.alloc o) cb tb rb H m p lv ts vs :=
 ⟨fF h.grown (kL (aK _)),aB h.count,h.small,aB h.blk,aB h.res,h.list.keep (kL (aK _)) a,by rw[yb];exact Nat.le_succ_of_le h.hz⟩
def qQ{B:Nat}{e:TypeId}{a n:Nat}{xs:List Value}(h:w.ownsRow B e a v n xs){y:Nat}(b:y<B):some y≠v.ownBlock:=λe=>by have:=(kp h y e.symm).1;omega
def RInv.push{S:Nat}{b:Value}{t:Ty}(h:RInv w2 w cb tb rb H m p lv ts vs)(l:cb<w2.heap.size)(o:w2.heap.size<=tb)(c:tb<H)(f:w2.heap.size<=rb)(d:rb<H)(e:rb≠tb)(j:H<=S)
 (hvS:∀k,lv.ownBlock=some k->k<S) (hL:aH (S <= ·) w t u) (hg:Gr w lv w' b) (ho:wS H w' b (vs++[u])):RInv w2 (w'.setCell ⟨tb,1,none⟩ b) cb tb rb H m p b (ts++[t]) (vs++[u]):=by
 have a:w'.grownBy (w'.setCell ⟨tb,1,none⟩ b) (some tb):=dY (bM _ _) _ _ _;have kb:w'.heap[tb]?=_:=(hg.block (ux h.blk) (qQ h.list.own c)).trans h.blk;have g:w'.heap[rb]?=_:=(hg.block (ux h.res) (qQ h.list.own d)).trans h.res;have kc:w'.heap[cb]?=_:=(hg.block (ux h.count) (qQ h.list.own od)).trans h.count;refine⟨?_,?_,h.small,?_,?_,(h.list.push j hvS hL hg ho).keep a c,?_⟩
 .refine⟨hg.1.os.trans h.grown.os,hg.1.tape.trans h.grown.tape,hg.1.output.trans h.grown.output,kh h.grown.size (kh hg.1.size a.size),λi n f=>?_⟩;rw[a.block i (by have:=h.grown.size;have:=hg.1.size;omega) oB,hg.block (by have:=h.grown.size;omega) (qQ h.list.own od)];exact h.grown.block i n f
 .exact (a.block cb (ux kc) oB).trans kc
 .have:=heap_setCell_same w' tb 1 _ _ b kb;simpa using this
 .exact (a.block rb (ux g) (by simpa using e)).trans g
 .have:=h.hz;have:=hg.1.size;have:=a.size;omega
def Zz (w:World) (cb m:Nat) (k n p:Int) (s:ByteArray) (a:Option Addr) (l c:Nat):World :=
 (((w.setCell ⟨cb,0,none⟩ (.i ((m:Int)+1))).alloc (.cells #[.i k,.i n,.i p,.string s,.slice a l c] 26)).alloc (.cells #[.i 0,.n0] 54)).alloc (.cells #[.i p,.n0] 54)
def Vd{k:Int}(h:jl w cb m)(e:m+1<=300):RInv w (Zz w cb m k n p s a l c) cb (w.heap.size+1+1) (w.heap.size+1) (w.heap.size+1+1+1) (m+1) p (.n0) [] []:=by have b:=qT ((w.setCell ⟨cb,0,none⟩ (.i ((m:Int)+1))).alloc (.cells #[.i k,.i n,.i p,.string s,.slice a l c] 26)) (.cells #[.i 0,.n0] 54);have d:=qT (((w.setCell ⟨cb,0,none⟩ (.i ((m:Int)+1))).alloc (.cells #[.i k,.i n,.i p,.string s,.slice a l c] 26)).alloc (.cells #[.i 0,.n0] 54)) (.cells #[.i p,.n0] 54);simp only[yb,qX]at b d;refine⟨fF (fF (fF (dY (bM _ _) _ _ _) (kL (aK _))) (kL (aK _))) (kL (aK _)),aB (aB (aB (jg6 h))),e,d,aB b,gz.nil _ _,?_⟩;unfold Zz;simp only[yb,qX];exact qv _
def Oa(m:Nat)(k n p:Int)(s:ByteArray)(args:List Tr)(h:lS k n s=true):oW m (.nd k n p s args)=(primBs args&&decide (m+1+sizes args<=300)):=by simp only[oW,primB,Tr.size,h,je4,show m+(sizes args+1)=m+1+sizes args from by omega]
def Ob{args:List Tr}{j:Nat}(a:j<args.length)(h:oW (m+sizes (args.take j)) args[j]=false):(primBs args&&decide (m+sizes args<=300))=false:=by
 cases b:(primBs args&&decide (m+sizes args<=300))with
 | false=>rfl
 | true =>
  simp only[qu,ki,BR,zr]at b;have c:=b.1 args[j] (zj a);have d:=gH args j a;have e:=jF args (j+1);simp[oW,c]at h;omega
def qF{w0:World}{r:Option Nat}(h:w0.grownBy w r)(e:w0.heap.size<=b)(x y:Value):w0.grownBy (set2 w b x y) r:=by have a:=vI w b x y;exact⟨a.os.trans h.os,a.tape.trans h.tape,a.output.trans h.output,kh h.size a.size,λi c d=>(a.block i (jz c h.size) oB).trans (h.block i c d)⟩
def Ro(hL:bI (· ≠ cb) w t v):∀(m:Nat) (w2:World),Same (· ≠ cb) w w2->w.heap.size<=w2.heap.size->jl w2 cb m->m<=300 ->
 Calls prog 187 #[v,.pointer (some ⟨cb,0,none⟩)] w2 (Db m t cb w2):=by
 induction hL with
 | @mk k n p s d a c _ V hl hS ik iN ip hc hr ih =>
  intro m w2 L hz D hm
  by_cases hw:m=300\/lS k n s=false
  .refine UY m w2 D hm hl ?_ hw;simp only[oW,primB,Tr.size];rcases hw with h|h
   .simp[show ¬m+(sizes d+1)<=300 from by omega]
   .simp[h]
  have br:m+1<=300:=od
  have ab:lS k n s=true:=by
   cases h:lS k n s with
   | true=>rfl
   | false=>exact absurd (.inr h) hw
  have ax:=Vd (k:=k) (n:=n) (p:=p) (s:=s) (a:=a) (l:=d.length) (c:=c) D br;have T:=Oa m k n p s d ab;have bf:kreadT (.nd k n p s d) =.nd p (d.map kreadT):=by rw[kreadT,Kg]
  have bh:(Tr.nd k n p s d).size=sizes d+1:=by rw[Tr.size]
  simp only[lS,ki]at ab;obtain⟨rfl,rfl,bw⟩:=ab;have cg:s.toList.isEmpty=true:=by have:=(Lf.Au s).2 bw;rw[this];rfl
  have c1:=qd4 D;have c2:=jd6 D;have l1:cb<w2.heap.size:=ux D;have l2:cb<w2.heap.size+1:=od
  have l3:cb<w2.heap.size+1+1:=od
  have cd:(m:Int)+1<=300:=od
  obtain⟨IH,HC,HS,ao,Q,bo,bp⟩:=wi ih hc L ax T bf bh;unfold maxLen at hl;clear ih hc hr L ax T bf bh D hw;unfold af;go_enter func187,ntmps187;go_wp2_with fail;go_loopw [41] (λi wr=>∃(j:Nat) (lv:Value) (vs:List Value),j<=d.length/\i =.i j/\RInv w2 wr cb (w2.heap.size+1+1) (w2.heap.size+1) (w2.heap.size+1+1+1) (m+1+sizes (d.take j)) p lv ((d.take j).map kreadT) vs/\primBs (d.take j)=true) (λi _=>d.length - (intOf i).toNat)
  case atStart=>exact⟨0,_,_,kB _,rfl,ao,by simp[primBs]⟩
  case round =>
   obtain⟨j,lv,vs,hj,rfl,x,P⟩:=hrel;have bq:∃E F,lv =.slice E (List.map kreadT (List.take j d)).length F:=by obtain⟨E,F,_,h,_,_⟩:=x.list.done;exact⟨E,F,h⟩
   obtain⟨E,F,rfl⟩:=bq;generalize K:(List.map kreadT (List.take j d)).length=M at *;have ad:M=vs.length:=by rw[<-K];exact x.list.len.symm
   have b0:=xq x.blk;have b1:=wy x.blk;have r0:=xq x.res;have r1:=wy x.res
   by_cases q:j<d.length
   .obtain⟨b,o,rfl,cf,k',n',p',s',a',l',c',hv,e0,e1,e2,e3,e4⟩:=(HC.out j q).same (HS.grown hz x.grown ot);have C:=x.alloc od (.cells #[.i k',.i n',.i p',.string s',.slice a' l' c'] 26);have O:=IH.out j q (m+1+sizes (d.take j)) (wr.alloc (.cells #[.i k',.i n',.i p',.string s',.slice a' l' c'] 26)) (HS.grown hz C.grown ot) (by have:=C.grown.size;omega) C.count C.small;rw[hv]at O;unfold af at O;have U:=jh O;have r:=jh C;have W:=jh P;have HQ:=jh ad;have aq:=jh K;have ck:w2.heap.size+1+1+1<=wr.heap.size:=x.hz;have bn:Hid (∀k,(Value.slice E M F).ownBlock=some k->k<wr.heap.size):=λk hk=>(kp x.list.own k hk).2;clear O C x P hv ad K;go_wp2_with fail;refine U.mono ?_;rintro e N ⟨y,bt⟩;have cj:wr.heap.size<N.heap.size:=by have:=y.size;simp at this;omega
    rcases bt with⟨z,u,rfl,Z,ay⟩|⟨z,rfl⟩
    .obtain⟨kt,A,G,B,rfl⟩:=Z.bY;have aj:m+1+sizes (d.take j)+(d[j]).size<=300:=by simp[oW]at z;exact z.2
     have I:=r.out.next y od od od ay aj
     have q0:=xq I.blk;have q1:=wy I.blk;have lq:w2.heap.size+1+1<N.heap.size:=ux I.blk;have cl:w2.heap.size+1+1<N.heap.size+1:=od
     have Y:=I.alloc od (.cells #[.i kt,.slice A G B] 54);have R:=Z.same (w':=N.alloc (.cells #[.i kt,.slice A G B] 54)) (λb o _ hb=>jd7 _ _ _ hb);obtain⟨H,bl,X,cc⟩:=JT Y R z aj;have bz:vs.length<=1000000000000:=by have h1:=HQ.out;have h2:=aq.out;have h3:=cB (d.take j);rw[qg7]at h2;omega
     have ca:w2.heap.size+1+1+1<=(N.alloc (.cells #[.i kt,.slice A G B] 54)).heap.size:=Y.hz;clear I Y Z R ay y z aj U r;unfold bY;go_wp2_with (at_builtin;refine Y4 (w2.heap.size+1+1+1) vs kt A G B (N.alloc (.cells #[.i kt,.slice A G B] 54)) (.slice E M F) rfl (.tmp 55) (.tmp 57) rfl rfl rfl (yb _ _) H.list.own ca bz ?_;intro g au w5 bc aE;have bm:=jh bc;have an:=jh aE;clear bc aE;have bk:=jh (H.push (S:=(wr.alloc (.cells #[.i k',.i n',.i p',.string s',.slice a' l' c'] 26)).heap.size) od od od od od od oB (λk hk=>by have:=bn.out k hk;simp;omega) bl an bm);have k5:=(an.out.block (ux H.blk) (qQ H.list.own od)).trans H.blk;have m5:=wy k5;have m6:=ui k5;clear k5);have h5:RInv w2 (w5.setCell ⟨w2.heap.size+1+1,1,none⟩ (.slice (some ⟨g,0,none⟩) (vs.length+1) au)) cb (w2.heap.size+1+1) (w2.heap.size+1) (w2.heap.size+1+1+1) (m+1+sizes (d.take (j+1))) p (.slice (some ⟨g,0,none⟩) (vs.length+1) au) ((d.take (j+1)).map kreadT) (vs++[bY kt A G B]):=by have h:=bk.out;rw[gH d j q,<-qe0,ur q,qc2];exact h
     have h6:primBs (d.take (j+1))=true:=by have h:=X.out;have h2:=W.out;simp only[oW,qu]at h;rw[BR]at h2|-;rw[ur q,qc6,h2];simp[h.1]
     exact⟨⟨j+1,_,_,od,OF,h5,h6⟩,vj⟩
    .have ah:=r.out.next y (m':=0) od od od
     have f:N.heap[w2.heap.size+1]?=some (.cells #[.i 0,.n0] 54 (0,0)):=(y.block _ (ux r.res) oB).trans r.res;have ar:=jh f;have q0:=xq f;have q1:=wy f;have q2:=ui f;have lq:w2.heap.size+1<N.heap.size:=ux f;have bj:=jh (fF r.grown y);have X:=jh z;clear ah f y z U r;unfold bY;go_wp2_with fail;change bodyPost _ _ _ _ _ ((set2 N (w2.heap.size+1) (.i 0) (.n0)).alloc (.cells #[.i 0,.n0] 54));have J:=aB (o:=.cells #[.i 0,.n0] 54) (oZ ar (.i 0) (.n0));have aa:=fF (qF bj (b:=w2.heap.size+1) od (.i 0) (.n0)) (kL (aK (.cells #[.i 0,.n0] 54)));generalize (set2 N (w2.heap.size+1) (.i 0) (.n0)).alloc (.cells #[.i 0,.n0] 54)=wf at *;have z0:=xq J;have z1:=wy J;refine zv (v:=.tuple #[bY 0 none 0 0,.bool false]) (by simp[results,results187,go_sem,z0,z1,bY]) rfl ⟨aa,.inr ⟨?_,rfl⟩⟩;rw[Q.out];exact Ob q X
   .have ba:j=d.length:=by omega
    have f1:=ui x.res;have ch:w2.heap.size+1+1<wr.heap.size:=ux x.blk;obtain⟨HI,HJ,W,aq⟩:=JT x ba P K;clear x ba P ad K HC IH HS ao;go_wp2_with fail;change bodyPost _ _ _ _ _ (set2 wr (w2.heap.size+1) (.i p) (.slice E M F));have J:=oZ HI.res (.i p) (.slice E M F);have aa:=qF HI.grown (b:=w2.heap.size+1) od (.i p) (.slice E M F);have aO:=vI wr (w2.heap.size+1) (.i p) (.slice E M F);generalize set2 wr (w2.heap.size+1) (.i p) (.slice E M F)=wf at *;have z0:=xq J;have z1:=wy J;refine zv (v:=.tuple #[bY p E M F,.bool true]) (by simp[results,results187,go_sem,z0,z1,bY]) rfl ⟨aa,.inl ⟨?_,_,rfl,?_,?_⟩⟩
    .have h1:=W.out;have h2:=HI.out.small;rw[HJ.out,qe2]at h1 h2;rw[Q.out,h1];simp;omega
    .obtain⟨a1,c1,V1,ak,az,aC⟩:=HI.out.list.done;have e1:List.map kreadT (List.take j d)=List.map kreadT d:=by rw[HJ.out,qe2]
     rw[e1]at ak az;simp only[e1]at aC;have bb:(List.map kreadT d).length<=maxLen:=by rw[qg7];unfold maxLen;omega
     have bd:dw (w2.heap.size+1+1+1 <= ·) wr (List.map kreadT d) a1 V1:=⟨bb,az,aC⟩;have ai:=(bd.same (w':=wf) (λb o hb q=>qn (aO.block b q (by have : w2.heap.size+1+1+1<=b:=hb;simp;omega)))).ae (ok':=(w2.heap.size <= ·)) (λb _ hb=>by have : w2.heap.size+1+1+1<=b:=hb;show _<=b;omega);rw[bo.out];have bx:bY p E M F=bY p a1 (List.map kreadT d).length c1:=by unfold bY;rw[ak]
     rw[bx];exact aH.of ip ai (qP HI.list.own ak)
    .have h:=(aO.block cb (ux HI.count) oB).trans HI.count;rw[HJ.out,qe2]at h;rw[bp.out,show m+(sizes d+1)=m+1+sizes d from by omega];exact h
def fu (t:Tr):Bool:=oW 0 t&&zt (kreadT t)
def wu (t:Tr) (w:World) (e:Ending) (w':World):Prop :=
 w.grownBy w' none/\((fu t=true/\∃u,e =.returned (.tuple #[u,.i 0])/\aH (w.heap.size <= ·) w' (kreadT t) u)\/(fu t=false/\e =.returned (.tuple #[bY 0 none 0 0,.i 1])))
def bI.grow(h:bI (· < w.heap.size) w t v)(c:w.grownBy w' none):bI (· < w'.heap.size) w' t v :=
 (h.same (w':=w') (λb o a _=>qn (c.block b a ot))).ae (λb a _=>a)
def bI.form(h:bI ok w t v):∃k n p s a l c,v=Go.Proofs.YtgfdimkbfnpepaaGreat.af k n p s a l c/\l<=maxLen:=by
 cases h with
 | mk V b=>exact⟨_,_,_,_,_,_,_,rfl,b⟩
def Bv(hL:bI (· < w.heap.size) w t v):Calls prog 143 #[v] w (wu t w):=by
 obtain⟨k,n,p,s,a,l,c,rfl,hl⟩:=hL.form;have L:w.grownBy (((w.alloc (.cells #[.i k,.i n,.i p,.string s,.slice a l c] 26)).alloc (.cells #[.i 0,.n0] 54)).alloc (.cells #[.i 0] 3)) none:=aJ (aK _) (aJ (aK _) (aK _));have G:jl (((w.alloc (.cells #[.i k,.i n,.i p,.string s,.slice a l c] 26)).alloc (.cells #[.i 0,.n0] 54)).alloc (.cells #[.i 0] 3)) (w.heap.size+1+1) 0:=by have:=qT ((w.alloc (.cells #[.i k,.i n,.i p,.string s,.slice a l c] 26)).alloc (.cells #[.i 0,.n0] 54)) (.cells #[.i 0] 3);simp only[yb]at this;exact this
 have V:(((w.alloc (.cells #[.i k,.i n,.i p,.string s,.slice a l c] 26)).alloc (.cells #[.i 0,.n0] 54)).alloc (.cells #[.i 0] 3)).heap[w.heap.size+1]?=some (.cells #[.i 0,.n0] 54 (0,0)):=by have:=qT (w.alloc (.cells #[.i k,.i n,.i p,.string s,.slice a l c] 26)) (.cells #[.i 0,.n0] 54);simp only[yb]at this;exact aB this
 have T:bI (· ≠ w.heap.size+1+1) (((w.alloc (.cells #[.i k,.i n,.i p,.string s,.slice a l c] 26)).alloc (.cells #[.i 0,.n0] 54)).alloc (.cells #[.i 0] 3)) t (af k n p s a l c) :=
  (hL.same (λb o m _=>qn (L.block b m ot))).ae (λb _ m=>by have : b<w.heap.size:=m;show b≠_;omega)
 have hF:=Ro T 0 _ (Same.refl _ _) (qv _) G od;obtain⟨aa,S,Y⟩:=we L V hF;clear hL G T L V hF;unfold maxLen at hl;unfold af at Y|-;go_enter func143,ntmps143;go_wp2_with fail;refine Y.mono ?_;rintro e O ⟨D,ah⟩;have j:O.heap[w.heap.size+1]?=_:=(D.block _ (ux S) ot).trans S;have C:=wG aa od D;have P:=jh j;have q2:=ui j;have q0:=xq j;have q1:=wy j;have lq:w.heap.size+1<O.heap.size:=ux j;rcases ah with⟨A,u,rfl,K,_⟩|⟨A,rfl⟩
 .obtain⟨F,d,g,f,rfl⟩:=K.bY;have q:aH (w.heap.size+1+1+1 <= ·) O (kreadT t) (bY F d g f):=K.ae (λb _ m=>by simp only[yb]at m;exact m);have U:=nT ((q.ae (ok':=(· < O.heap.size)) (λb m _=>m)).grow (aK (.cells #[.i F,.slice d g f] 54)));have I:=jh U;have ab:=jh q;have H:=jh C;have z:fu t=zt (kreadT t):=by simp[fu,A]
  have B:=jh z;clear U K q C D A z j Y;unfold bY at I|-;go_wp2_with fail;refine I.mono ?_;rintro e w2 ⟨rfl,y⟩;have r:w2.heap[w.heap.size+1]?=_:=(y.block _ (by rw[yb];omega) ot).trans (aB P);have ak:=ui r;have ai:=xq r;have aj:=wy r;have N:w2.heap[O.heap.size]?=some (.cells #[.i F,.slice d g f] 54 (0,0)):=(y.block _ (by rw[yb];omega) ot).trans (qT _ _);have t0:=xq N;have t1:=wy N;obtain⟨Q,R,Z⟩:=we r (aJ H (aJ (aK _) y)) (aJ (aK _) y);clear y r N I q0 q1 q2
  cases E:zt (kreadT t)with
  | true =>
   have J:=jh E;clear E;go_wp2_with fail;change bodyPost _ _ _ _ _ (set2 w2 (w.heap.size+1) (.i F) (.slice d g f));have h:=oZ Q (.i F) (.slice d g f);have x:=qF R (b:=w.heap.size+1) od (.i F) (.slice d g f);have ad:=vI w2 (w.heap.size+1) (.i F) (.slice d g f);generalize set2 w2 (w.heap.size+1) (.i F) (.slice d g f)=wf at *;have W:=xq h;have X:=wy h;refine zv (v:=.tuple #[bY F d g f,.i 0]) (by simp[results,results143,go_sem,W,X,bY]) rfl ⟨x,.inl ⟨by rw[B.out,J.out],_,rfl,?_⟩⟩;have h1:=ab.out.same (w':=w2) (λb o _ M=>qn (Z.block b M ot));exact (h1.same (w':=wf) (λb o m M=>qn (ad.block b M (by have : w.heap.size+1+1+1<=b:=m;simp;omega)))).ae (λb _ m=>by have : w.heap.size+1+1+1<=b:=m;show _<=b;omega)
  | false =>
   have J:=jh E;clear E;go_wp2_with fail;change bodyPost _ _ _ _ _ (set2 w2 (w.heap.size+1) (.i 0) (.n0));have h:=oZ Q (.i 0) (.n0);have x:=qF R (b:=w.heap.size+1) od (.i 0) (.n0);generalize set2 w2 (w.heap.size+1) (.i 0) (.n0)=wf at *;have W:=xq h;have X:=wy h;exact zv (v:=.tuple #[bY 0 none 0 0,.i 1]) (by simp[results,results143,go_sem,W,X,bY]) rfl ⟨x,.inr ⟨by rw[B.out,J.out],rfl⟩⟩
 .have z:fu t=false:=by simp[fu,A]
  have B:=jh z;have H:=jh C;clear z C D A j Y;unfold bY;go_wp2_with fail;change bodyPost _ _ _ _ _ ((set2 O (w.heap.size+1) (.i 0) (.n0)).alloc (.cells #[.i 0,.n0] 54));have h:=aB (o:=.cells #[.i 0,.n0] 54) (oZ P (.i 0) (.n0));have x:=aJ (qF H (b:=w.heap.size+1) od (.i 0) (.n0)) (aK (.cells #[.i 0,.n0] 54));generalize (set2 O (w.heap.size+1) (.i 0) (.n0)).alloc (.cells #[.i 0,.n0] 54)=wf at *;have W:=xq h;have X:=wy h;exact zv (v:=.tuple #[bY 0 none 0 0,.i 1]) (by simp[results,results143,go_sem,W,X,bY]) rfl ⟨x,.inr ⟨B,rfl⟩⟩
end Go.Proofs.YtgfdimkbfnpepaaGreat
namespace Go.Proofs.YtgfdimkbfnpepaaGreat.Lf
set_option linter.all false
open Go.Proofs.Tryz
set_option maxRecDepth 100000
set_option maxHeartbeats 4000000
open Go.ChangeShapes Go.WideShapes Go.ChangeAt Go.RowKit
def rP (k:Int):Bool:=decide (0<=k/\k<=3)
def gD (k:Int):Bool:=decide (1<=k/\k<=15\/20<=k/\k<=28\/40<=k/\k<=95)
def qM (k n p:Int) (s:ByteArray) (l:Nat):Bool :=
 if k=0 then decide (p≠0\/s.size≠0\/l≠0)else if k=1 then decide (n≠0\/p≠0\/l≠0)else if k=2 then decide (n≠0\/s.size≠0)else decide (n≠0\/p≠0\/s.size≠0)
def fD (k n p:Int) (s:ByteArray) (l:Nat):Int :=
 if rP k=false then 3 else if k=2/\gD p=false then 3 else if qM k n p s l=true then 1
 else if n < -1152921504606846976\/1152921504606846976<n then 2 else if 200<s.size then 4 else 0
def JH(k:Int)(w:World) :
 Calls prog 92 #[.i k] w λe w'=>e =.returned (.bool (rP k))/\w'=w:=by
 go_enter func92,ntmps92
 go_wp2
 all_goals
  go_ret;exact kZ (by simp[rP];try omega) rfl
def rQ(k:Int)(w:World) :
 Calls prog 93 #[.i k] w λe w'=>e =.returned (.bool (gD k))/\w'=w:=by
 go_enter func93,ntmps93
 go_wp2
 all_goals
  go_ret;refine kZ ?_ rfl;rw[qd0];simp[gD]
  try omega
def GH(k n p:Int)(s:ByteArray)(a:Option Addr)(l c:Nat)(w:World)(d:l<=maxLen) :
 Calls prog 94 #[.agg #[.i k,.i n,.i p,.string s,.slice a l c]] w λe w'=>e =.returned (.bool (qM k n p s l))/\w.grownBy w' none:=by
 unfold maxLen at d;have b:Hid (s.toList=[] ↔ s.size=0):=Au s;go_enter func94,ntmps94
 go_wp2
 all_goals
  go_ret;refine kZ ?_ (gb _);have f:=b.out;clear b;rw[qd0];simp_all [qM]
  try omega
def OO(k n p:Int)(s:ByteArray)(a:Option Addr)(l c:Nat)(w:World)(d:l<=maxLen)(f:s.size<=maxLen) :
 Calls prog 63 #[.agg #[.i k,.i n,.i p,.string s,.slice a l c]] w λe w'=>e =.returned (.i (fD k n p s l))/\w.grownBy w' none:=by
 unfold maxLen at f;go_enter func63,ntmps63;go_wp2_with (first
  | (go_at_call 92;refine (JH _ _).mono ?_;rintro e w' ⟨rfl,rfl⟩)
  | (go_at_call 93;refine (rQ _ _).mono ?_;rintro e w' ⟨rfl,rfl⟩)
  | (go_at_call 94;refine (GH _ _ _ _ _ _ _ _ d).mono ?_;rintro e w' ⟨rfl,b⟩;have g:=Qr b;have h:w.heap.size<w'.heap.size:=(by have:=b.size;simp at this;omega)))
 all_goals
  go_ret;refine lX ?_ (by first|exact gb _|exact Zt (gb _) oS);unfold fD;simp_all<;>omega
end Go.Proofs.YtgfdimkbfnpepaaGreat.Lf
namespace Go.Proofs.YtgfdimkbfnpepaaGreat
set_option linter.all false
open Go.Proofs.Tryz
set_option maxRecDepth 100000
set_option maxHeartbeats 4000000
open Go.ChangeShapes Go.WideShapes Go.ChangeAt Go.RowKit
variable {a:Act}{ops:Array Oper}{Q:Exit->Act->World->Prop}{l:List Tr}{B d i:Nat}{o:Oper}{t:Tr}{v:Value}{w:World}
mutual
def bC (d:Nat):Tr->Int
 | .nd k n p s args=>if 24<d then 4 else if Lf.fD k n p s args.length≠0 then Lf.fD k n p s args.length else bG (d+1) args
def bG (d:Nat):List Tr->Int
 | []=>0
 | t::ts=>if bC d t≠0 then bC d t else bG d ts
end
def dS (t:Tr):Int:=if bC 1 t≠0 then bC 1 t else if 300<t.size then 4 else 0
def xE(h:i<l.length)(a:bG d (l.take i)=0):bG d (l.take (i+1))=bC d l[i]:=by
 induction l generalizing i with
 | nil=>simp at h
 | cons t ts c =>
  cases i with
  | zero=>simp[bG];exact λh=>h.symm
  | succ i =>
   simp only[List.take_succ_cons,bG]at a|-
   by_cases b:bC d t=0
   .simp[b]at a|-;exact c (by simpa using h) a
   .simp[b]at a
def Ac(h:bG d (l.take i)≠0):bG d l=bG d (l.take i):=by
 induction l generalizing i with
 | nil=>simp
 | cons t ts b =>
  cases i with
  | zero=>simp[bG]at h
  | succ i =>
   simp only[List.take_succ_cons,bG]at h|-
   by_cases a:bC d t=0
   .simp[a]at h|-;exact b h
   .simp[a]
def Nn{cb:Nat}(hL:bI (· ≠ cb) w t v):∀(d:Nat) (m:Int) (w2:World),Same (· ≠ cb) w w2->w.heap.size<=w2.heap.size -> 
 w2.heap[cb]?=some (.cells #[.i m] 3 (0,0))->0<=m->m+t.size<=4611686018427387904->d<=25 ->
 Calls prog 42 #[v,.i d,.pointer (some ⟨cb,0,none⟩)] w2 λe w'=>e =.returned (.i (bC d t))/\w2.grownBy w' (some cb) /\
  (bC d t=0->w'.heap[cb]?=some (.cells #[.i (m+t.size)] 3 (0,0))):=by
 induction hL with
 | @mk k n p s args a c _ V hl hS ik iN ip X hr ih =>
  intro d m w2 y hz E h0 hm hd;have IH:Hid (∀(i:Nat) (h:i<args.length) (d:Nat) (m:Int) (w2:World),Same (· ≠ cb) w w2->w.heap.size<=w2.heap.size->w2.heap[cb]?=some (.cells #[.i m] 3 (0,0))->0<=m->m+(args[i]).size<=4611686018427387904->d<=25 ->
   Calls prog 42 #[V i,.i d,.pointer (some ⟨cb,0,none⟩)] w2 λe w'=>e =.returned (.i (bC d args[i]))/\w2.grownBy w' (some cb) /\
   (bC d args[i]=0->w'.heap[cb]?=some (.cells #[.i (m+(args[i]).size)] 3 (0,0)))):=ih
  have HC:Hid (∀i,i<args.length->ky (· ≠ cb) w a i (V i)):=X;have T:Hid (Same (· ≠ cb) w w2):=y;have P:Hid (w2.heap[cb]?=some (.cells #[.i m] 3 (0,0))):=E;have q:cb<w2.heap.size:=(qq.1 E).1;have z:(Tr.nd k n p s args).size=sizes args+1:=by rw[Tr.size]
  rw[z]at hm|-;have ab:=cB args;clear ih X hr y E z
  by_cases K:24<d
  .have S:(24:Int)<(d:Int):=by omega
   have hF:Hid (bC d (.nd k n p s args)=4):=by show _=_;rw[bC,if_pos K]
   unfold af;go_enter func42,ntmps42;go_wp2_with fail;go_ret;rw[hF.out];exact⟨rfl,kL (aK _),λh=>od⟩
  have S:(d:Int)<=24:=od
  have G:=Lf.OO k n p s a args.length c (w2.alloc (.cells #[.i k,.i n,.i p,.string s,.slice a args.length c] 26)) hl hS
  by_cases M:Lf.fD k n p s args.length=0
  .rw [M]at G;have O:Hid (bC d (.nd k n p s args)=bG (d+1) args):=by show _=_;rw[bC,oa,if_neg (by simpa using M)]
   have Q:=jh G;clear G M;unfold af;go_enter func42,ntmps42;go_wp2_with fail;refine Q.out.mono ?_;rintro e w' ⟨rfl,l⟩;have J:=Lf.Qr l;have ae:w2.heap.size<w'.heap.size:=by have:=l.size;simp at this;omega
   have g:w'.heap[cb]?=some (.cells #[.i m] 3 (0,0)):=by rw[l.block cb oB ot,qb1 (h:=q)];exact P.out
   have c1:=qd4 g;have c2:=jd6 g;have F:Hid (w'.heap[cb]?=some (.cells #[.i m] 3 (0,0))):=g;have B:Hid ((w2.alloc (.cells #[.i k,.i n,.i p,.string s,.slice a args.length c] 26)).grownBy w' none):=l;have I:w'.cell? ⟨w2.heap.size,4,none⟩=some (.slice a args.length c):=by rw[J _ _ ot];simp
   have H:∀u,(w'.setCell ⟨cb,0,none⟩ u).cell? ⟨w2.heap.size,4,none⟩=some (.slice a args.length c):=by intro u;rw[World.cell?_setCell_other _ _ _ _ (by intro h;have:=congrArg Addr.block h;simp at this;omega)];exact I
   clear g l J I;go_wp2_with fail;have G0:Hid (w2.grownBy (w'.setCell ⟨cb,0,none⟩ (.i (m+1))) (some cb)):=dY (kL (aJ (aK _) B.out)) _ _ _;have B0:Hid ((w'.setCell ⟨cb,0,none⟩ (.i (m+1))).heap[cb]?=some (.cells #[.i (m+1)] 3 (0,0))):=jg6 F.out;clear B F c1 c2 H;generalize hX:w'.setCell ⟨cb,0,none⟩ (.i (m+1))=wx at *;clear hX;go_loopw [26] (λi wr=>∃j:Nat,j<=args.length/\i =.i j/\w2.grownBy wr (some cb)/\wr.heap[cb]?=some (.cells #[.i (m+1+sizes (args.take j))] 3 (0,0))/\bG (d+1) (args.take j)=0) (λi _=>args.length - (intOf i).toNat)
   case atStart=>exact⟨0,kB _,rfl,G0.out,by simpa[sizes]using B0.out,by simp[bG]⟩
   case round =>
    obtain⟨j,hj,rfl,l,g,hF⟩:=hrel
    by_cases q:j<args.length
    .have hA:=(HC.out j q).same (T.out.grown hz l ot);obtain⟨b,o,rfl,ad,k',n',p',s',U,l',W,Z,e0,e1,e2,e3,e4⟩:=hA;have z:=gH args j q;have aa:=jF args (j+1);have A:=fF l (kL (aK (.cells #[.i k',.i n',.i p',.string s',.slice U l' W] 26)));have C:=IH.out j q (d+1) (m+1+sizes (args.take j)) (wr.alloc (.cells #[.i k',.i n',.i p',.string s',.slice U l' W] 26))
      (T.out.grown hz A ot) (by have:=A.size;omega) (by rw[qb1 (h:=(qq.1 g).1)];exact g) od od od
     rw[Z,show (((d+1:Nat)):Int)=(d:Int)+1 from rfl]at C;unfold af at C;obtain⟨r,B,HZ⟩:=we (xE q hF) A z;clear Z l g hF A z
     by_cases N:bC (d+1) args[j]=0
     .rw[N]at C;have R:=jh N;have HI:=jh C;clear N C;go_wp2_with fail;refine HI.out.mono ?_;rintro e w3 ⟨rfl,f,D⟩;have D:=jh (D (by first|exact trivial|rfl));have f:=jh f;go_wp2_with fail;go_roundw
      case rel=>exact⟨j+1,od,OF,fF B.out f.out,P5 D.out (by rw[HZ.out];push_cast;omega),by rw[r.out,R.out]⟩
      case measure=>simp[intOf];omega
     .have R:Hid (bG (d+1) args=bC (d+1) args[j]):=by
       show _=_;rw[Ac (i:=j+1) (by rw[r.out];exact N),r.out]
      generalize bC (d+1) args[j]=x at *;have HI:=jh C;clear C;go_wp2_with fail;refine HI.out.mono ?_;rintro e w3 ⟨rfl,f,_⟩;have f:=jh f;go_wp2_with fail;go_ret;rw[O.out,R.out];exact⟨rfl,fF B.out f.out,λh=>absurd h N⟩
    .have L:j=args.length:=by omega
     obtain⟨B,P,r,HJ⟩:=JT l g hF L;clear l g hF L;go_wp2_with fail;go_ret;have g:=P.out;have Y:=r.out;rw[HJ.out,qe2]at g Y;rw[O.out,Y];exact⟨rfl,B.out,λ_=>P5 g (by push_cast;omega)⟩
  .have O:Hid (bC d (.nd k n p s args)=Lf.fD k n p s args.length):=by show _=_;rw[bC,oa,if_pos (by simpa using M)]
   have Q:=jh G;clear G;generalize Lf.fD k n p s args.length=x at *;unfold af;go_enter func42,ntmps42;go_wp2_with fail;refine Q.out.mono ?_;rintro e w' ⟨rfl,l⟩;go_wp2_with fail;go_ret;rw[O.out];exact⟨rfl,kL (aJ (aK _) l),λh=>absurd h M⟩
def Bj(A:bI (· < w.heap.size) w t v)(H:t.size<=4611686018427387904) :
 Calls prog 21 #[v] w λe w'=>e =.returned (.i (dS t))/\w.grownBy w' none:=by
 have r:∃k n p s a l c,v=af k n p s a l c:=by cases A;exact⟨_,_,_,_,_,_,_,rfl⟩
 obtain⟨k,n,p,s,a,l,c,r⟩:=r;have B:Same (· < w.heap.size) w ((w.alloc (.cells #[.i k,.i n,.i p,.string s,.slice a l c] 26)).alloc (.cells #[.i 0] 3)):=by intro b o d _;rw[jd7 _ _ _ oB,jd7 _ _ _ d]
 have hF:=Nn (cb:=w.heap.size+1) (((A.same B).ae (ok':=(· ≠ w.heap.size+1)) (λb _ d=>by show b≠_;have : b<w.heap.size:=d;omega))) 1 0 _ (Same.refl _ _) (qv _)
  (by have E:=qT (w.alloc (.cells #[.i k,.i n,.i p,.string s,.slice a l c] 26)) (.cells #[.i 0] 3);simpa using E) od od od
 rw[r]at hF|-;unfold af at hF|-;have q:∀w',((w.alloc (.cells #[.i k,.i n,.i p,.string s,.slice a l c] 26)).alloc (.cells #[.i 0] 3)).grownBy w' (some (w.heap.size+1))->w.grownBy w' none:=by intro w' h;have g:w.grownBy ((w.alloc (.cells #[.i k,.i n,.i p,.string s,.slice a l c] 26)).alloc (.cells #[.i 0] 3)) none:=aJ (aK _) (aK _);exact⟨h.os.trans g.os,h.tape.trans g.tape,h.output.trans g.output,kh g.size h.size,λi C _=>(h.block i (jz C g.size) oB).trans (g.block i C ot)⟩
 have j:=jh q;rw[show ((1:Nat):Int)=1 from rfl,Int.zero_add]at hF;clear A B r q
 by_cases u:bC 1 t=0
 .have z:Hid (dS t=if 300<t.size then 4 else 0):=by show _=_;simp[dS,u]
  rw[u]at hF;have y:=jh hF;clear hF u
  by_cases D:300<t.size
  all_goals
   have F:(300:Int)<(t.size:Int)\/(t.size:Int)<=300:=od
   go_enter func21,ntmps21;go_wp2_with fail;refine y.mono ?_;rintro e w' ⟨rfl,m,d⟩;have d:=d (by first|exact trivial|rfl);have G:=qd4 d;have f:=jh m;clear m d;go_wp2_with fail;go_ret;rw[z.out];exact Lf.lX (by first|rw[if_pos D]|rw[if_neg D]) (j _ f)
 .have z:Hid (dS t=bC 1 t):=by show _=_;simp[dS,u]
  generalize bC 1 t=x at *;have y:=jh hF;clear hF;go_enter func21,ntmps21;go_wp2_with fail;refine y.mono ?_;rintro e w' ⟨rfl,m,_⟩;have f:=jh m;clear m;go_wp2_with fail;go_ret;rw[z.out];exact⟨rfl,j _ f⟩
open Go.RowKit
def YX(n:Nat)(h:n<9223372036854775808):IntKind.i64.wrap (n:Int)=(n:Int):=by have e:(n:Int) % 2 ^ 64=n:=Int.emod_eq_of_lt od od;simp only[IntKind.wrap,IntKind.bits,IntKind.signed,e];rw[if_neg];simp;omega
def ofInt64(a:Nat)(h:a<9223372036854775808):(BitVec.ofInt 64 (a:Int)).toNat=a:=by rw[BitVec.ofInt_natCast,BitVec.toNat_ofNat];exact jf2 od
def tQ(a b:Nat)(c:a<9223372036854775808)(d:b<9223372036854775808):bits .and .i64 (a:Int) (b:Int)=((a &&& b:Nat):Int):=by have e:a &&& b<2 ^ 63:=Nat.and_lt_two_pow _ od;show IntKind.i64.wrap ((BitVec.ofInt 64 (a:Int) &&& BitVec.ofInt 64 (b:Int)).toNat:Int)=_;rw[BitVec.toNat_and,ofInt64 a c,ofInt64 b d];exact YX _ od
def oO(a b:Nat)(c:a<9223372036854775808)(d:b<9223372036854775808):bits .or .i64 (a:Int) (b:Int)=((a ||| b:Nat):Int):=by have e:a ||| b<2 ^ 63:=Nat.or_lt_two_pow od od;show IntKind.i64.wrap ((BitVec.ofInt 64 (a:Int) ||| BitVec.ofInt 64 (b:Int)).toNat:Int)=_;rw[BitVec.toNat_or,ofInt64 a c,ofInt64 b d];exact YX _ od
def Le(a:Nat)(h:a<9223372036854775808):bits .and .i64 (a:Int) 63=((a % 64:Nat):Int):=by have:=tQ a 63 h od;rw[show a &&& 63=a % 64 from jf3 a 6]at this;exact this
def Jc(a:Nat)(h:a<9223372036854775808):bits .and .i64 (a:Int) 127=((a % 128:Nat):Int):=by have:=tQ a 127 h od;rw[show a &&& 127=a % 128 from jf3 a 7]at this;exact this
def VZ(a:Nat)(h:a<256):bits .and .i64 (a:Int) 64=((a / 64 % 2*64:Nat):Int):=by
 have:=tQ a 64 od od;rw[show a &&& 64=a / 64 % 2*64 from by
  have : ∀x:Fin 256,x.val &&& 64=x.val / 64 % 2*64:=vm
  exact this ⟨a,h⟩]at this
 exact this
def ZH(a:Nat)(h:a<64):bits .or .i64 0 (a:Int)=(a:Int):=by have:=oO 0 a od od;rw[Nat.zero_or]at this;exact this
def Zh(a:Nat)(h:a<64):bits .or .i64 64 (a:Int)=((64+a:Nat):Int):=by have:=oO 64 a od od;rw[<-Nat.two_pow_add_eq_or_of_lt (i:=6) h 1]at this;exact this
def Yz(a:Nat)(h:a<128):bits .or .i64 (a:Int) 128=((128+a:Nat):Int):=by have:=oO a 128 od od;rw[Nat.or_comm,<-Nat.two_pow_add_eq_or_of_lt (i:=7) h 1]at this;exact this
def wD (last m:Nat):List UInt8:=if m=0 then [last.toUInt8]else (128+last).toUInt8::wD (m % 128) (m / 128)
 termination_by m
 decreasing_by omega
def pE (n:Int):List UInt8:=wD ((if n<0 then 64 else 0)+n.natAbs % 64) (n.natAbs / 64)
def Bd(m:Nat):∀a,1<=(wD a m).length/\(∀k,m<128 ^ k->(wD a m).length<=k+1):=by
 induction m using Nat.strongRecOn with
 | _ m c =>
  intro a;rw[wD]
  by_cases h:m=0
  .simp[h]
  .rw[if_neg h];refine⟨ot,λk b=>?_⟩
   cases k with
   | zero=>simp at b;omega
   | succ k =>
    have:=(c (m / 128) od (m % 128)).2 k (by rw[Nat.pow_succ]at b;omega);simp;omega
def xx(n:Int)(h:bD n):1<=(pE n).length/\(pE n).length<=10:=by obtain⟨a,b⟩:=h;have:=Bd (n.natAbs / 64) ((if n<0 then 64 else 0)+n.natAbs % 64);exact⟨this.1,this.2 9 (by show _<9223372036854775808;omega)⟩
def info5:(prog.info? 5).map (λi=>(i.zero,i.size,i.bytes))=some (some (.int .u8 0),1,1):=oA
def cs (l:List UInt8):List Value:=l.map λb=>Value.int .u8 b.toNat
def Nb(l:List UInt8):(cs l).length=l.length:=by simp[cs]
def Dj(a b:List UInt8):cs (a++b)=cs a++cs b:=by simp[cs]
def om (B:Nat) (w:World) (v:Value) (l:List UInt8):Prop:=w.ownsRow B 5 1 v l.length (cs l)
def om.drew{l:List UInt8}(h:om B w v l):om B w.drew v l:=h
def Gr.below{a:World}{e:Value}{l:List UInt8}(h:Gr w v a e)(d:om B w v l)(b:B<=w.heap.size):Below B w a :=
 (Below.refl B w).grown h.1 b (λk c=>(kp d k c).1)
def app1{rest:List Oper}(B:Nat)(pre:List UInt8)(b:UInt8)(z:Int)(w0:World)(v:Value)(e:o.guard=none)(s x:Operand)
 (ho:o.op =.call { callee:=.builtin .append,args:=#[s,x],argTypes:=#[222,222] }) (hs:a.eval s=v) {H:Nat} (hx:a.eval x =.slice (some ⟨H,0,none⟩) 1 1) (hH:w0.heap.size=H)
 (hz:z=b.toNat) (hown:om B w0 v pre) (hB:B<=w0.heap.size) (hlen:pre.length<=10000000)
 (h:∀v' w',om B w' v' (pre++[b])->Gr w0 v w' v'->wpList prog ops Q rest (a.put o.dst v') w'):wpList prog ops Q (o::rest) a (w0.alloc (.cells #[.int .u8 z] 5)):=by
 obtain⟨r,q,f,i,k⟩:=qg1 info5;subst hz;subst hH;refine jb2 _ e s x 222 ho B 5 r (.int .u8 0) 1 1 underlying222 q f i k rfl ov v pre.length (cs pre) hs (xo hown _) ⟨w0.heap.size,0,none⟩ 1 1 [.int .u8 b.toNat] hx rfl ?_ ?_ ov ?_ ?_ ?_ _ rfl ?_
 .intro j u d
  match j,d with
  | 0,d=>simp at d;subst d;simp[Addr.add]
 .intro u l;simp at l;subst l;rfl
 .unfold maxLen;omega
 .omega
 .simp;omega
 .intro g m w' n p c _;refine h _ w' ?_ ?_
  .unfold om;rw[Dj,qS];exact n
  .refine Gr.trans (Gr.alloc (Gr.refl w0 v) _) ⟨p,?_⟩;rcases c with c|c
   .exact .inl c.symm
   .exact .inr ⟨g,rfl,od⟩
def Xa(s:ByteArray):Lib.strCells s=cs s.data.toList:=rfl
def Cf(B:Nat)(ty:TypeId)(v:Value)(a:List UInt8)(s:ByteArray)(w:World)(c:om B w v a)(H:0<a.length)(r:a.length+s.size<=10000000)(z:B<=w.heap.size) :
 ∃v' w',(Builtin.append_ #[222,9] ty #[v,.string s]).run prog w =.ok v' w'/\om B w' v' (a++s.data.toList)/\Gr w v w' v':=by
 obtain⟨q,m,h,f,i⟩:=qg1 info5;obtain⟨v',w',o,x,y,_⟩:=Lib.run_append_own_string (P:=prog) w B 222 9 ty 5 q underlying222 underlying9 m h f i v a.length (cs a) c s oT od z;refine⟨v',w',o,?_,y,?_⟩
 .unfold om;rw[Dj,qS,<-Xa];exact x
 .have n:=c;unfold om at n;rcases n.2 with⟨rfl,G⟩|⟨g,d,k,rfl,A,E,F,C,D,p⟩
  .omega
  .by_cases e:a.length+s.size<=d
   .have b:=Lib.run_append_room_string (P:=prog) w 222 9 ty 5 q underlying222 underlying9 m f g a.length d k E s e od;rw[o]at b;injection b with l t;subst l;exact .inl rfl
   .have holds:∀j u,(cs a)[j]?=some u->w.cell? ((⟨g,0,none⟩:Addr).add j)=some u:=yy n (g:=g) rfl;have b:=Lib.run_append_grow_string (P:=prog) w 222 9 ty 5 q (.int .u8 0) underlying222 underlying9 m h ⟨g,0,none⟩ a.length d (cs a) (by rw[f,Nb,Nat.mul_one]) holds s od od (by rw[i];exact growslice_fits od od);rw[o]at b;injection b with l t;subst l;exact .inr ⟨_,rfl,qv _⟩
def Ai{K:Act->World->Prop}{E:Prop}(B:Nat)(b:List UInt8)(s:ByteArray)(w:World)(v:Value)(c:o.guard=none)(sl x:Operand)
 (ho:o.op =.call { callee:=.builtin .append,args:=#[sl,x],argTypes:=#[222,9] }) (hs:a.eval sl=v) (hx:a.eval x =.string s)
 (hown:om B w v b) (hp:0<b.length) (hlen:b.length+s.size<=10000000) (hB:B<=w.heap.size)
 (h:∀v' w',om B w' v' (b++s.data.toList)->Gr w v w' v'->K (a.put o.dst v') w') :
 if Region.wanted o (yielded ops a.tmps)=true then Oper.wp prog o a w K Q else E:=by
 have g:Region.wanted o (yielded ops a.tmps)=true:=by simp[Region.wanted,c]
 rw[if_pos g];obtain⟨v',w',f,d,e⟩:=Cf B o.type v b s w hown hp hlen hB;unfold Oper.wp execOp;simp only[ho,resolve,invoke,builtin,qa3,je0,Result.andThen_ok,List.map_toArray,qb7,jb5,hs,hx,f];exact h v' w' d e
def Jg(B:Nat)(n:Int)(P:bD n)(Q:-9223372036854775808<n)(v:Value)(xs:List UInt8)(w:World)(f:om B w v xs)(X:B<=w.heap.size)(K:xs.length<=1000000) :
 Calls prog 221 #[v,.i n] w λe w'=>∃v',e =.returned v'/\om B w' v' (xs++pE n)/\Gr w v w' v':=by
 obtain⟨U,V⟩:=P;obtain⟨i0,Z,R,S,T⟩:=qg1 info5;have C:∃a m:Nat,a<128/\m<9223372036854775808/\pE n=wD a m/\(n<0->bits .or .i64 64 (bits .and .i64 (-n) 63)=(a:Int) /\ -n / 64=(m:Int))/\(¬n<0->bits .or .i64 0 (bits .and .i64 n 63)=(a:Int)/\n / 64=(m:Int)):=by
  refine⟨_,_,?_,?_,rfl,λh=>?_,λh=>?_⟩
  .split<;>omega
  .omega
  .have e:-n=(n.natAbs:Int):=by omega
   rw[e,Le _ od,Zh _ od,if_pos h];exact⟨rfl,od⟩
  .have e:n=(n.natAbs:Int):=by omega
   rw[e,Le _ od,ZH _ od,oa];exact⟨ot,od⟩
 obtain⟨c,D,N,O,J,r,q⟩:=C;have F:=jh J;clear J;have M:=xx n ⟨U,V⟩;rw[F.out]at M|-;rcases (show (n<0/\bits .or .i64 64 (bits .and .i64 (-n) 63)=(c:Int) /\ -n / 64=(D:Int))\/(0<=n/\bits .or .i64 0 (bits .and .i64 n 63)=(c:Int)/\n / 64=(D:Int)) from by
  by_cases h:n<0
  .exact .inl ⟨h,r h⟩
  .exact .inr ⟨od,q h⟩)with⟨s,H,I⟩|⟨s,H,I⟩
 all_goals
  clear r q;go_enter func221,ntmps221;go_wp2_with fail;clear H I F;go_loopw [0,6,1] (λL l n wr=>∃(d:List UInt8) (a m:Nat),a<128/\m<9223372036854775808/\l =.i a/\n =.i m/\d++wD a m=xs++wD c D/\om B wr L d/\Gr w v wr L) (λ_ _ n _=>(intOf n).toNat)
  case atStart=>exact⟨xs,_,_,N,O,rfl,rfl,rfl,f,Gr.refl _ _⟩
  case round =>
   obtain⟨d,a,m,y,A,rfl,rfl,j,b,x⟩:=hrel;have k:=congrArg List.length j;simp only[qS]at k;have hz:=x.1.size;obtain⟨G,HO,E⟩:=we j b x;clear j b x f
   by_cases o:m=0
   .have p:¬(0:Int)<(m:Int):=by omega
    have z:=(Bd m a).1;have t:((a:Nat):Int)=(a.toUInt8).toNat:=by rw[show a.toUInt8.toNat=a % 256 from rfl,jf2 od]
    have u:=jh t;clear t;go_wp2_with (at_builtin;refine app1 B d a.toUInt8 _ wr _ rfl _ _ rfl rfl rfl rfl u HO od od ?_;intro v' W b g);go_ret;refine⟨v',rfl,?_,E.trans g⟩;have:=G.out;rw[wD,if_pos o]at this;rw[<-this];exact b
   .have p:(0:Int)<(m:Int):=by omega
    have ho:=Yz a y;have Y:=Jc m A;have z:=(Bd m a).1;have t:(128+(a:Nat):Int)=((128+a).toUInt8).toNat:=by rw[show (128+a).toUInt8.toNat=(128+a) % 256 from rfl,jf2 od];rfl
    have u:=jh t;clear t;go_wp2_with (at_builtin;refine app1 B d (128+a).toUInt8 _ wr _ rfl _ _ rfl rfl rfl rfl u HO od od ?_;intro v' W b g);go_roundw
    case rel=>exact⟨d++[(128+a).toUInt8],m % 128,m / 128,od,od,OF,OF,by have:=G.out;rw[wD,if_neg o]at this;simpa using this,b,E.trans g⟩
    case measure=>simp[intOf];omega
