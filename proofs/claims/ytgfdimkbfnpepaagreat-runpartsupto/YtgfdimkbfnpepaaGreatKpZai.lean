import Derived.Test.YtgfdimkbfnpepaaGreatKpZah
namespace Go.Proofs.YtgfdimkbfnpepaaGreat
set_option linter.all false
open Go.Proofs.Tryz
set_option maxRecDepth 100000
set_option maxHeartbeats 4000000
open Go.ChangeShapes Go.WideShapes Go.ChangeAt Go.RowKit
def Af (p n:Int) (ta:Option Addr) (tl tc:Nat) (ra:Option Addr) (rl rc:Nat) (dk dn dp:Int) (ds:ByteArray) (da:Option Addr) (dl dc:Nat):Value :=
 .agg #[.i p,.i n,.slice ta tl tc,.slice ra rl rc,.i dk,.i dn,.i dp,.string ds,.slice da dl dc]
def jo.at{w:World}{s:List Ty}{sa:Option Addr}{sl sc:Nat}(h:jo w s (.slice sa sl sc))(i:Nat)(hi:i<s.length):∃b o t a l k,sa=some ⟨b,o,none⟩/\w.cell? ⟨b,o+2*i,none⟩=some (.i t)/\w.cell? ⟨b,o+(2*i+1),none⟩=some (.slice a l k)/\aH (λ_=>True) w (bB s i) (Go.Proofs.YtgfdimkbfnpepaaGreat.bY t a l k):=by
 obtain⟨n,c,V,e,p,f⟩:=h;simp only[ke]at e;obtain⟨rfl,rfl,rfl⟩:=e;obtain⟨b,o,rfl,_,t,a,l,k,m,g,j⟩:=f.2.1 i hi;have d:=f.2.2 i hi;rw[m]at d;refine⟨b,o,t,a,l,k,rfl,?_,?_,?_⟩
 .rw[ja5];exact g
 .rw[ja5,<-qe0];exact j
 .unfold bB;rw[qt hi];exact d
def Z9(W:World)(I R:Obj):W.grownBy ((W.alloc I).alloc R) none/\((W.alloc I).alloc R).heap[W.heap.size]?=some I/\((W.alloc I).alloc R).heap[W.heap.size+1]?=some R:=by refine⟨aJ (aK _) (aK _),CJ W I R,?_⟩;have h:=qT (W.alloc I) R;rwa [show (W.alloc I).heap.size=W.heap.size+1 from by simp]at h
def XJ(W:World)(I R K:Obj):W.grownBy (((W.alloc I).alloc R).alloc K) none/\(((W.alloc I).alloc R).alloc K).heap[W.heap.size]?=some I/\(((W.alloc I).alloc R).alloc K).heap[W.heap.size+1]?=some R/\(((W.alloc I).alloc R).alloc K).heap[W.heap.size+1+1]?=some K:=by obtain⟨a,b,c⟩:=Z9 W I R;refine⟨aJ a (aK _),aB b,aB c,?_⟩;have h:=qT ((W.alloc I).alloc R) K;rwa [show ((W.alloc I).alloc R).heap.size=W.heap.size+1+1 from by simp]at h
def JJ{w w':World}{a:Addr}{v:Value}(b:w.grownBy w' none)(h:w.cell? a=some v):w'.cell? a=some v:=(qn (b.block _ (kd w _ h) ot)).trans h
def l5{w w':World}{b:Nat}{o:Obj}(h:w.heap[b]?=some o)(a:w.grownBy w' none):w'.heap[b]?=some o:=(a.block _ (qq.1 h).1 ot).trans h
def ZI{w w':World}{b:Nat}{o:Obj}(h:Hid (w.heap[b]?=some o))(g:w.grownBy w' none):Hid (w'.heap[b]?=some o):=l5 h g
def aH.low{w:World}{T:Ty}{v:Value}(h:aH (λ_=>True) w T v):aH (· < w.heap.size) w T v:=h.ae (λb a _=>a)
def KJ{w w':World}{r:Option Nat}(h:w.drew.grownBy w' r):w.grownBy w' r:=⟨h.os,h.tape,h.output,h.size,h.block⟩
def Ip{s:List Ty}{ks:List Int}(h:sFq s ks=true)(i:Nat)(k:Int)(hk:ks[i]?=some k)(b:k≠0):(bB s i).t=k:=by
 obtain⟨f,c⟩:=(stand_iff s ks).1 h;obtain⟨d,e⟩:=jj.1 hk;have a:i<s.length:=od
 have:=c i d a;rw[e]at this;unfold bB;rw[qt a];rcases this with h|h
 .exact absurd h b
 .exact h
def Lt{s:List Ty}(h:s.all zt=true){i:Nat}(hi:i<s.length):zt (bB s i)=true:=by unfold bB;rw[qt hi];exact zr.1 h _ (zj hi)
def xL{T:Ty}(h:zt T=true):(T.args.length:Int)=bT T.t:=by obtain⟨t,args⟩:=T;simp only[zt,j5,qu,ki]at h;exact h.1.1.1.2.2
variable {K:Nat->Prop}
def Uf:(prog.info? 24).map (λi=>(i.zero,i.size,i.bytes))=some (some (.n0),1,24):=oA
def AU (B:Nat) (w:World) (v:Value) (vs:List Value):Prop:=w.ownsRow B 24 1 v vs.length vs
def bI.Y5{ok:Nat->Prop}{w:World}{t:Tr}{v:Value}(h:bI ok w t v):∀{k n p:Int}{s:ByteArray}{a:Option Addr}{l c:Nat},v=Go.Proofs.YtgfdimkbfnpepaaGreat.af k n p s a l c->l<=c:=by
 cases h with
 | mk V d g j i m b f =>
  intro k n p s a l c e;simp only[Go.Proofs.YtgfdimkbfnpepaaGreat.af,qb3,qc1,xj,ke,and_true]at e;omega
structure kP (K:Nat->Prop) (WB w:World) (ib:Nat) (types:List Ty) (rows:List (List Tr)) (tv rv:Value) (vs rvs:List Value):Prop where
 grow:WB.grownBy w (some ib)
 lt:ib<WB.heap.size
 nR:wS WB.heap.size w tv vs
 CU:vs.length=types.length
 LF:∀(k:Nat) (t:Ty) (u:Value),types[k]?=some t->vs[k]?=some u->aH (λb=>WB.heap.size<=b/\some b≠tv.ownBlock/\some b≠rv.ownBlock) w t u
 sD:AU WB.heap.size w rv rvs
 CS:rvs.length=rows.length
 LD:∀(k:Nat) (l:List Tr) (u:Value),rows[k]?=some l->rvs[k]?=some u->∃na nc VN,u =.slice na l.length nc/\l.length<=nc/\cK (λb=>K b/\b+1<ib) WB l na VN
def BL{w:World}{B C:Nat}{e c:TypeId}{size a n l:Nat}{v v':Value}{xs b:List Value}(h:w.ownsRow B e size v n xs)(i:w.ownsRow C c a v' l b)(j:e≠c):v.ownBlock=none\/v.ownBlock≠v'.ownBlock:=by
 rcases h.2 with⟨rfl,_⟩|⟨g,d,f,rfl,_,k,_⟩
 .exact .inl rfl
 .exact .inr (aD i k (Ne.symm j))
def kP.step{f w w':World}{a:Nat}{types:List Ty}{rows:List (List Tr)}{i g:Value}{vs c:List Value}(h:kP K f w a types rows i g vs c)(d:w.grownBy w' (some a)):kP K f w' a types rows i g vs c:=by
 have m:=h.lt;refine⟨fF h.grow d,h.lt,zp h.nR d ?_,h.CU,λk t u n p=>(h.LF k t u n p).same ?_,zp h.sD d ?_,h.CS,h.LD⟩
 .refine .inr λe=>?_;have:=(kp h.nR a e).1;omega
 .intro b o j l;exact qn (d.block b l (by have:=j.1;simp;omega))
 .refine .inr λe=>?_;have:=(kp h.sD a e).1;omega
def kP.call{b w w':World}{c:Nat}{types:List Ty}{rows:List (List Tr)}{e d:Value}{vs a:List Value}(h:kP K b w c types rows e d vs a)(f:w.grownBy w' none):kP K b w' c types rows e d vs a:=h.step (kL f)
def kP.YI{j w w':World}{A:Nat}{types:List Ty}{rows:List (List Tr)}{tv n a:Value}{vs r:List Value}{t:Ty}{u:Value}{S:Nat}(h:kP K j w A types rows tv n vs r)(L:j.heap.size<=S)(s:∀k,tv.ownBlock=some k->k<S)(D:∀k,n.ownBlock=some k->k<S)(E:aH (S <= ·) w t u)(d:Gr w tv w' a)(I:wS j.heap.size w' a (vs++[u])) :
 kP K j w' A (types++[t]) rows a n (vs++[u]) r:=by
 have p:=h.lt;have v:=BL h.sD h.nR ov;have x:∀t u,aH (λb=>j.heap.size<=b/\some b≠tv.ownBlock/\some b≠n.ownBlock) w t u->aH (λb=>j.heap.size<=b/\some b≠a.ownBlock/\some b≠n.ownBlock) w' t u:=by
  intro t u H;have s:=H.ae (ok':=λb=>j.heap.size<=b/\some b≠tv.ownBlock/\some b≠a.ownBlock/\some b≠n.ownBlock) (λb c l=>⟨l.1,l.2.1,by
   rcases d.2 with e|⟨g,e,G⟩
   .rw[e];exact l.2.1
   .rw[e];simp;omega,l.2.2⟩)
  refine (s.same (w':=w') ?_).ae (λb _ c=>⟨c.1,c.2.2.1,c.2.2.2⟩);intro b o c p;exact qn (d.block p c.2.1)
 refine⟨?_,h.lt,I,by simp[h.CU],λk B C f m=>x B C ?_,zp h.sD d.1 v,h.CS,h.LD⟩
 .refine⟨d.1.os.trans h.grow.os,d.1.tape.trans h.grow.tape,d.1.output.trans h.grow.output,kh h.grow.size d.1.size,λi y J=>(d.1.block i (jz y h.grow.size) (λe=>by have:=(kp h.nR i e.symm).1;omega)).trans (h.grow.block i y J)⟩
 .by_cases l:k<types.length
  .rw[jt l]at f;rw[jt (by rw[h.CU];exact l)]at m;exact h.LF k B C f m
  .rw[js od]at f;rw[js (by rw[h.CU];omega),h.CU]at m
   cases z:k - types.length with
   | zero =>
    rw[z]at f m;simp at f m;subst f;subst m;exact E.ae (λb _ c=>by
     have F:S<=b:=c;refine⟨od,λe=>?_,λe=>?_⟩
     .have:=s b e.symm;omega
     .have:=D b e.symm;omega)
   | succ q=>rw[z]at f;simp at f
def kP.YH{j w w':World}{z:Nat}{types:List Ty}{rows:List (List Tr)}{tv v a:Value}{vs n:List Value}{l:List Tr}{na:Option Addr}{nc:Nat}{VN:Nat->Value}(h:kP K j w z types rows tv v vs n)(F:cK (λb=>K b/\b+1<z) j l na VN)(r:l.length<=nc)(d:Gr w v w' a)(I:AU j.heap.size w' a (n++[.slice na l.length nc])) :
 kP K j w' z types (rows++[l]) tv a vs (n++[.slice na l.length nc]):=by
 have s:=h.lt;have y:=BL h.nR h.sD ov;have A:∀t u,aH (λb=>j.heap.size<=b/\some b≠tv.ownBlock/\some b≠v.ownBlock) w t u->aH (λb=>j.heap.size<=b/\some b≠tv.ownBlock/\some b≠a.ownBlock) w' t u:=by
  intro t u H;have E:=H.ae (ok':=λb=>j.heap.size<=b/\some b≠v.ownBlock/\some b≠tv.ownBlock/\some b≠a.ownBlock) (λb p m=>⟨m.1,m.2.2,m.2.1,by
   rcases d.2 with e|⟨g,e,G⟩
   .rw[e];exact m.2.2
   .rw[e];simp;omega⟩)
  refine (E.same (w':=w') ?_).ae (λb _ p=>⟨p.1,p.2.2.1,p.2.2.2⟩);intro b o p s;exact qn (d.block s p.2.1)
 refine⟨?_,h.lt,zp h.nR d.1 y,h.CU,λk D x c f=>A D x (h.LF k D x c f),I,by simp[h.CS],λk L x c f=>?_⟩
 .refine⟨d.1.os.trans h.grow.os,d.1.tape.trans h.grow.tape,d.1.output.trans h.grow.output,kh h.grow.size d.1.size,λi B J=>(d.1.block i (jz B h.grow.size) (λe=>by have:=(kp h.sD i e.symm).1;omega)).trans (h.grow.block i B J)⟩
 .by_cases m:k<rows.length
  .rw[jt m]at c;rw[jt (by rw[h.CS];exact m)]at f;exact h.LD k L x c f
  .rw[js od]at c;rw[js (by rw[h.CS];omega),h.CS]at f
   cases C:k - rows.length with
   | zero =>
    rw[C]at c f;simp at c f;subst c;subst f;exact⟨na,nc,VN,rfl,r,F⟩
   | succ q=>rw[C]at c;simp at c
def nA (K:Nat->Prop) (WB w:World) (ib:Nat) (i:Ins):Prop :=
 ∃(tv rv:Value) (vs rvs:List Value) (da:Option Addr) (dc:Nat),w.heap[ib]?=some (.cells #[.i i.p,.i i.n,tv,rv,.i i.data.k0,.i i.data.n0,.i i.data.p0,.string i.data.s0,.slice da i.data.args0.length dc] 104 (0,0)) /\
  kP K WB w ib i.types i.rows tv rv vs rvs/\bI (λb=>K b/\b+1<ib) WB i.data (af i.data.k0 i.data.n0 i.data.p0 i.data.s0 da i.data.args0.length dc)
def nA.call{b w w':World}{d:Nat}{i:Ins}(h:nA K b w d i)(c:w.grownBy w' none):nA K b w' d i:=by obtain⟨m,l,n,a,e,f,g,j,k⟩:=h;exact⟨m,l,n,a,e,f,l5 g c,j.call c,k⟩
def vB{w:World}{B:Nat}{e:TypeId}{size n:Nat}{v:Value}{xs:List Value}(h:w.ownsRow B e size v n xs):∃a c,v =.slice a n c/\n<=c:=by
 rcases h.2 with⟨rfl,rfl⟩|⟨g,b,d,rfl,_,_,f,_⟩
 .exact⟨none,0,rfl,qv _⟩
 .exact⟨_,b,rfl,f⟩
def PM (J:Nat->Prop) (w:World) (rows:List (List Tr)) (a:Option Addr):Prop :=
 ∀(k:Nat) (l:List Tr),rows[k]?=some l->∃b o na nc VN,a=some ⟨b,o,none⟩/\(J b/\l.length<=nc)/\w.cell? ⟨b,o+k,none⟩=some (.slice na l.length nc)/\cK J w l na VN
def PM.mono{J J':Nat->Prop}{w:World}{rows:List (List Tr)}{a:Option Addr}(h:PM J w rows a)(d:∀b,J b->J' b):PM J' w rows a:=λk l m=>by obtain⟨b,o,n,p,f,e,c,g,i⟩:=h k l m;exact⟨b,o,n,p,f,e,⟨d b c.1,c.2⟩,g,i.ae (λb _ j=>d b j)⟩
def nA.done{s w w':World}{z rb:Nat}{i:Ins}(h:nA K s w z i)(x:w.grownBy w' (some rb))(aa:rb+1=z):∃(ta:Option Addr) (tc:Nat) (ra:Option Addr) (rc:Nat) (da:Option Addr) (A:Nat),
 w.heap[z]?=some (.cells #[.i i.p,.i i.n,.slice ta i.types.length tc,.slice ra i.rows.length rc,.i i.data.k0,.i i.data.n0,.i i.data.p0,.string i.data.s0,.slice da i.data.args0.length A] 104 (0,0)) /\
 (i.types.length<=tc/\∃V,dw (s.heap.size <= ·) w' i.types ta V)/\PM (λb=>K b\/s.heap.size<=b) w' i.rows ra/\i.rows.length<=rc/\bI K w' i.data (af i.data.k0 i.data.n0 i.data.p0 i.data.s0 da i.data.args0.length A):=by
 obtain⟨tv,rv,P,f,da,A,J,d,R⟩:=h;obtain⟨ta,tc,rfl,_⟩:=vB d.nR;obtain⟨ra,rc,rfl,H⟩:=vB d.sD;have Z:=d.lt;have ab:=d.grow.size;have j:Same (λb=>K b/\b+1<z) s w':=λb o B G=>by have X:b+1<z:=B.2;exact (qn (x.block b (by show b<_;omega) oB)).trans (qn (d.grow.block b G oB))
 have F:gz s.heap.size w (.slice ta P.length tc) i.types P:=⟨d.nR,d.CU,λk t u ht I=>(d.LF k t u ht I).ae (λb _ B=>⟨B.1,B.2.1⟩)⟩;have Y:=F.keep x od;have hR:AU s.heap.size w' (.slice ra f.length rc) f:=zp d.sD x (.inr λe=>by have:=(kp d.sD rb e).1;omega);obtain⟨a,c,V,e,k1,k2⟩:=Y.done;simp only[ke]at e;obtain⟨rfl,_,rfl⟩:=e;have M:i.types.length<=maxLen/\i.types.length<=tc:=by
  have G:=d.CU;rcases d.nR.2 with⟨r,D⟩|⟨g,C,q,r,_,_,S,T,_⟩
  .rw[G]at D;rw[D];exact⟨kB _,kB _⟩
  .simp only[ke]at r;obtain⟨_,_,rfl⟩:=r;exact⟨od,od⟩
 rw[d.CU,d.CS]at J;refine⟨ta,tc,ra,rc,da,A,J,⟨M.2,V,M.1,k1,k2⟩,λk l y=>?_,by rw[<-d.CS];exact H,(R.same j).ae (λ_ _ h=>h.1)⟩;have m:k<f.length:=by rw[d.CS];exact (jj.1 y).1
 obtain⟨N,O,Q,I,v,hN⟩:=d.LD k l f[k] y (qt m);rcases hR.2 with⟨r,D⟩|⟨g,C,q,r,E,x,S,_,T,U⟩
 .omega
 .simp only[ke]at r;obtain⟨rfl,_,rfl⟩:=r;refine⟨g,0,N,O,Q,rfl,⟨.inr E,v⟩,?_,(hN.same j).ae (λ_ _ h=>.inl h.1)⟩;have L:(q.toList.take (f.length*1))[k]?=f[k]?:=by rw[U]
  rw[qc5,oc,qt m,I]at L;have W:q[k]?=some (.slice N l.length O):=by simpa using L
  simp[World.cell?,x,W]
variable {K:Nat->Prop}
def pM{w:World}{g:Nat}{T:TypeId}{x0 a b c d e f i j:Value}(h:w.heap[g]?=some (.cells #[x0,a,b,c,d,e,f,i,j] T (0,0))):∀o,w.frozen? ⟨g,o,none⟩=false:=by intro o;simp[World.frozen?,h]
def XE{w:World}{g:Nat}{T:TypeId}{x0 j a b c d e f i:Value}(h:w.heap[g]?=some (.cells #[x0,j,a,b,c,d,e,f,i] T (0,0)))(y:Value):(w.setCell ⟨g,1,none⟩ y).heap[g]?=some (.cells #[x0,y,a,b,c,d,e,f,i] T (0,0)):=by simp[World.setCell,yr,h]
def XF{w:World}{g:Nat}{T:TypeId}{x0 a j b c d e f i:Value}(h:w.heap[g]?=some (.cells #[x0,a,j,b,c,d,e,f,i] T (0,0)))(y:Value):(w.setCell ⟨g,2,none⟩ y).heap[g]?=some (.cells #[x0,a,y,b,c,d,e,f,i] T (0,0)):=by simp[World.setCell,yr,h]
def XG{w:World}{g:Nat}{T:TypeId}{x0 a b j c d e f i:Value}(h:w.heap[g]?=some (.cells #[x0,a,b,j,c,d,e,f,i] T (0,0)))(y:Value):(w.setCell ⟨g,3,none⟩ y).heap[g]?=some (.cells #[x0,a,b,y,c,d,e,f,i] T (0,0)):=by simp[World.setCell,yr,h]
def XH{w:World}{g:Nat}{T:TypeId}{x0 a b c k l m n o:Value}(h:w.heap[g]?=some (.cells #[x0,a,b,c,k,l,m,n,o] T (0,0)))(d e f i j:Value):(((((w.setCell ⟨g,4,none⟩ d).setCell ⟨g,5,none⟩ e).setCell ⟨g,6,none⟩ f).setCell ⟨g,7,none⟩ i).setCell ⟨g,8,none⟩ j).heap[g]?=some (.cells #[x0,a,b,c,d,e,f,i,j] T (0,0)):=by simp[World.setCell,yr,h]
def lG (K:Nat->Prop) (WB:World) (ib:Nat) (i:Ins) (f:UInt8) (t:Tr) (e:Ending) (w':World):Prop :=
 ∃ok,e =.returned (.bool ok)/\WB.grownBy w' (some ib)/\((ok=false/\iy i f t=none)\/(ok=true/\∃j,iy i f t=some j/\nA K WB w' ib j))
def uN{a w':World}{b:Nat}{i:Ins}{f:UInt8}{t:Tr}(h:iy i f t=none)(c:a.grownBy w' (some b)):lG K a b i f t (.returned (.bool false)) w':=⟨false,rfl,c,.inl ⟨rfl,h⟩⟩
def yC{a w':World}{b:Nat}{i j:Ins}{f:UInt8}{t:Tr}(h:iy i f t=some j)(c:a.grownBy w' (some b))(d:nA K a w' b j):lG K a b i f t (.returned (.bool true)) w':=⟨true,rfl,c,.inr ⟨rfl,j,h,d⟩⟩
def Vq{o W:World}{j:Nat}{i:Ins}{t:Tr}{G:Value}(O:nA K o W j i)(B:bI (λb=>K b/\b+1<j) o t G) :
 Calls prog 101 #[.pointer (some ⟨j,0,none⟩),.int .u8 110,G] W (lG K o j i 110 t):=by
 obtain⟨tv,V,X,x,I,J,q,C,A⟩:=O;obtain⟨s,u,Y,y,⟨ik,iN,ip,P⟩,p⟩:=B.yX;rw[y];unfold af;have g:=aK (w:=W) (.cells #[.i t.k0,.i t.n0,.i t.p0,.string t.s0,.slice s t.args0.length u] 26);have d:=qT W (.cells #[.i t.k0,.i t.n0,.i t.p0,.string t.s0,.slice s t.args0.length u] 26);have c:=l5 q g;have k:=C.call g;have r:W.heap.size≠j:=by have:=(qq.1 q).1;omega
 have E:=XE c (.i t.n0);have h:=dY (bM (W.alloc (.cells #[.i t.k0,.i t.n0,.i t.p0,.string t.s0,.slice s t.args0.length u] 26)) (some j)) 1 none (.i t.n0);have f:=k.step h;have e:=(h.block W.heap.size (qq.1 d).1 (by simpa using r)).trans d;have l:=f.grow;have H:Hid (nA K o _ j { i with n:=t.n0 }):=⟨tv,V,X,x,I,J,E,f,A⟩;have a:=jh l;obtain⟨m0,m1,m2,m3,m4⟩:=bE d;obtain⟨Q,R,S,T,U⟩:=bE e;have fr:=pM c;obtain⟨Z,c1,c2,c3,_⟩:=nL c;have D:iy i 110 t=if t.k0=0/\0<=t.n0/\t.n0<=40 then some { i with n:=t.n0 } else none:=by simp[iy]
 have m:=jh D;clear D l e f h E k c g d C A q B p y;generalize t.k0=F at *;generalize t.n0=v at *
 by_cases z:F=0
 .subst z
  by_cases M:0<=v
  .by_cases N:v<=40
   .go_enter func101,ntmps101;go_wp2_with fail;go_ret;exact yC (show iy i 110 t=some { i with n:=v } by rw[m.out];simp[M,N]) a H
   .go_enter func101,ntmps101;go_wp2_with fail;go_ret;exact uN (by rw[m.out,oa]) a
  .go_enter func101,ntmps101;go_wp2_with fail;go_ret;exact uN (by rw[m.out,oa]) a
 .have L:(F==0)=false:=by simpa using z
  go_enter func101,ntmps101;go_wp2_with fail;go_ret;exact uN (by rw[m.out,oa]) a
def pS{α:Type} : (∀(l:List α) (i:Nat) (a:α),l.toArray.setIfInBounds i a=(l.set i a).toArray)/\(∀(a b:α) (l:List α),(a::l).set 0 b=b::l)/\(∀(a b:α) (l:List α) (n:Nat),(a::l).set (n+1) b=a::l.set n b) :=
 ⟨λl i a=>kO ..,λa b l=>xF ..,λa b l n=>zE ..⟩
variable {K:Nat->Prop}
section
variable {P:Program}{ops:Array Oper}{Q:Exit->Act->World->Prop}{md:Region.Mode}{S:World->Prop}
def Wl(i:Nat)(d:Tmp){g:Act}{e:Nat}{b:Array Bool}{a:Act}{w:World}(h:wpAnyH P md ops Q S e (b.setIfInBounds i true) g w)
 (hi:∃f,ops[i]?=some f/\f.dst=some d/\Region.wanted f (yielded ops a.tmps)=false:=by exact⟨_,rfl,rfl,by rfl⟩)
 (hs:Region.noSelect ops=true:=by kernel_rfl) (hf:Region.free md ops b i=true:=by kernel_rfl) (hr:(Region.ready md ops b).contains i=true:=by kernel_rfl)
 (hQ:∀c a w,Q (.panic c) (a.put (some d) undef) w->Q (.panic c) a w:=by exact λ_ _ _ h=>h) (hS:S w:=by assumption) (h9:a.put (some d) undef=g:=by simp only[Act.put,pS];rfl):wpAnyH P md ops Q S (e+1) b a w:=by
 subst h9;obtain⟨f,j,k,l⟩:=hi;rw[<-k]at hQ h;exact wpAnyH_take j hs hf hr hQ (.inr ⟨l,rfl⟩) hS h
def LX(i:Nat)(d:Tmp){v:Value}{e:Nat}{b:Array Bool}{a:Act}{w:World}(hi:∃f,ops[i]?=some f/\f.dst=some d/\Region.wanted f (yielded ops a.tmps)=true/\∀w,S w->(execOp a.eval f).run P w =.ok (.value v) w)
 (h:wpAnyH P md ops Q S e (b.setIfInBounds i true) (a.put (some d) v) w)
 (hs:Region.noSelect ops=true:=by kernel_rfl) (hf:Region.free md ops b i=true:=by kernel_rfl) (hr:(Region.ready md ops b).contains i=true:=by kernel_rfl)
 (hQ:∀c a w,Q (.panic c) (a.put (some d) v) w->Q (.panic c) a w:=by exact λ_ _ _ h=>h) (hS:S w:=by assumption):wpAnyH P md ops Q S (e+1) b a w:=by
 obtain⟨f,g,j,k,l⟩:=hi;rw[<-j]at hQ h;exact wpAnyH_take g hs hf hr hQ (.inl ⟨k,l⟩) hS h
end
def fG(i:Nat)(d:Tmp){k:Act}{P:Program}{e:Array Oper}{Q:Exit->Act->World->Prop}{j:Region.Mode}{S:World->Prop}{v:Value}{g:Oper}{f:Nat}{b:Array Bool}{a:Act}{w:World}(h:wpAnyH P j e Q S f (b.setIfInBounds i true) k w)
 (h1:e[i]?=some g:=by rfl) (h2:g.dst=some d:=by rfl) (h3:Region.wanted g (yielded e a.tmps)=true:=by rfl)
 (h4:∀w,S w->(execOp a.eval g).run P w =.ok (.value v) w:=by intro w l;go_simp;try with_reducible rfl)
 (hs:Region.noSelect e=true:=by kernel_rfl) (hf:Region.free j e b i=true:=by kernel_rfl) (hr:(Region.ready j e b).contains i=true:=by kernel_rfl)
 (hQ:∀c a w,Q (.panic c) (a.put (some d) v) w->Q (.panic c) a w:=by exact λ_ _ _ h=>h) (hS:S w:=by assumption) (h9:a.put (some d) v=k:=by simp only[Act.put,pS];rfl):wpAnyH P j e Q S (f+1) b a w :=
 LX i d ⟨g,h1,h2,h3,h4⟩ (h9 ▸ h) hs hf hr hQ hS
def UC{w:World}{B n g cap:Nat}{e:TypeId}{xs:List Value}{b c:Value}(h:w.ownsRow B e 2 (.slice (some ⟨g,0,none⟩) (n+1) cap) (n+1) (xs++[b,c])) :
 w.cell? ⟨g,n*2,none⟩=some b/\w.cell? ⟨g,n*2+1,none⟩=some c/\(∀o,w.frozen? ⟨g,o,none⟩=false)/\B<=g:=by
 have r:=h.1;simp at r;rcases h.2 with⟨d,_⟩|⟨s,i,a,d,q,f,t,u,v,l⟩
 .simp at d
 .simp only[ke,qk,qb2,and_true,true_and]at d;obtain⟨rfl,rfl⟩:=d;have j:(a.toList.take ((n+1)*2))[n*2]?=some b:=by rw[l,js od];simp[show n*2 - xs.length=0 by omega]
  have k:(a.toList.take ((n+1)*2))[n*2+1]?=some c:=by rw[l,js od];simp[show n*2+1 - xs.length=1 by omega]
  rw[qc5,oc]at j k;have m:a[n*2]?=some b:=by simpa using j
  have p:a[n*2+1]?=some c:=by simpa using k
  exact⟨by simp[World.cell?,f,m],by simp[World.cell?,f,p],λo=>by simp[World.frozen?,f],q⟩
def Ra{w:World}{B n g cap:Nat}{e:TypeId}{xs:List Value}{j l:Value}(f i:Value)(h:w.ownsRow B e 2 (.slice (some ⟨g,0,none⟩) (n+1) cap) (n+1) (xs++[j,l])) :
 ((w.setCell ⟨g,n*2,none⟩ f).setCell ⟨g,n*2+1,none⟩ i).ownsRow B e 2 (.slice (some ⟨g,0,none⟩) (n+1) cap) (n+1) (xs++[f,i]):=by
 have u:=h.1;simp at u;refine⟨oB,?_⟩;rcases h.2 with⟨b,_⟩|⟨y,m,a,b,q,r,o,s,p,t⟩
 .simp at b
 .simp only[ke,qk,qb2,and_true,true_and]at b;obtain⟨rfl,rfl⟩:=b;refine .inr ⟨g,cap,(a.setIfInBounds (n*2) f).setIfInBounds (n*2+1) i,rfl,q,?_,o,s,by simpa using p,?_⟩
  .simp[World.setCell,yr,r]
  .apply List.ext_getElem?;intro k;have c:(a.toList.take ((n+1)*2))[k]?=(xs++[j,l])[k]?:=by rw[t]
   by_cases d:k<(n+1)*2
   .rw[qc5,if_pos d]at c|-
    by_cases x:k<xs.length
    .rw[jt x]at c|-;rw[<-c];simp only[Array.toList_setIfInBounds];rw[qd1 od,qd1 od]
    .have v:(n+1)*2<=a.size:=by rw[p];exact jb6 2 o
     rcases (show k=n*2\/k=n*2+1 by omega)with rfl|rfl
     .rw[js od,show n*2 - xs.length=0 by omega];simp only[Array.toList_setIfInBounds];rw[qd1 od,qf4 oB];rfl
     .rw[js od,show n*2+1 - xs.length=1 by omega];simp only[Array.toList_setIfInBounds];rw[qf4 oB];rfl
   .rw[jb1 oB,jb1 oB]
def bu{w:World}{g h o p:Nat}(x y:Value)(c:g≠h):(w.setCell ⟨g,o,none⟩ x).setCell ⟨h,p,none⟩ y=(w.setCell ⟨h,p,none⟩ y).setCell ⟨g,o,none⟩ x:=by
 simp only[World.setCell]
 congr 1
 apply Array.ext_getElem?;intro k;simp only[yr]
 by_cases a:h=k<;>by_cases b:g=k
 .omega
 .simp[a,b]
 .simp[a,b]
 .simp[a,b]
def NY{w:World}{B g cap:Nat}{vs:List Value}{k:Int}{sa:Option Addr}{sl sc:Nat}(h:wS B w (.slice (some ⟨g,0,none⟩) (vs.length+1) cap) (vs++[bY 0 none 0 0])) :
 wS B ((w.setCell ⟨g,vs.length*2,none⟩ (.i k)).setCell ⟨g,vs.length*2+1,none⟩ (.slice sa sl sc)) (.slice (some ⟨g,0,none⟩) (vs.length+1) cap) (vs++[bY k sa sl sc]):=by
 unfold wS at h|-;simp only[dx,qS,yW]at h|-;exact Ra _ _ h
def vz{w:World}{B g cap:Nat}{vs:List Value}(h:wS B w (.slice (some ⟨g,0,none⟩) (vs.length+1) cap) (vs++[bY 0 none 0 0])) :
 w.cell? ⟨g,vs.length*2,none⟩=some (.i 0)/\w.cell? ⟨g,vs.length*2+1,none⟩=some (.n0)/\(∀o,w.frozen? ⟨g,o,none⟩=false)/\B<=g:=by
 unfold wS at h;simp only[dx,qS,yW]at h;exact UC h
def Qt{w w':World}{v:Value}{g n cap:Nat}(h:Gr w v w' (.slice (some ⟨g,0,none⟩) n cap))(o:Nat)(x:Value):Gr w v (w'.setCell ⟨g,o,none⟩ x) (.slice (some ⟨g,0,none⟩) n cap):=by
 refine⟨?_,h.2⟩;have a:=dY (bM w' (some g)) o none x;refine⟨a.os.trans h.1.os,a.tape.trans h.1.tape,a.output.trans h.1.output,kh h.1.size a.size,λk d c=>?_⟩;refine (a.block k (jz d h.1.size) (λe=>?_)).trans (h.1.block k d c);rcases h.2 with b|⟨i,b,f⟩
 .rw[<-b]at c;exact c e
 .simp[Value.ownBlock]at b;simp at e;omega
variable {K:Nat->Prop}
def wu.form{t:Tr}{W:World}{e:Ending}{w':World}(h:wu t W e w'):∃T l f k g b,e =.returned (.tuple #[.agg #[.i l,.slice f k g],.i b])/\W.grownBy w' none/\aH (W.heap.size <= ·) w' T (bY l f k g)/\((b=0/\fu t=true/\T=kreadT t)\/(b=1/\fu t=false)):=by
 rcases h.2 with⟨d,u,rfl,j⟩|⟨d,rfl⟩
 .obtain⟨a,c,V,e,_⟩:=j.inv;subst e;exact⟨_,_,_,_,_,_,rfl,h.1,j,.inl ⟨rfl,d,rfl⟩⟩
 .exact⟨.nd 0 [],0,none,0,0,1,rfl,h.1,aH.ofRow ⟨ov,ov⟩ (qv _) (dw.nil _ _ _ (λ_=>.i 0)),.inr ⟨rfl,d⟩⟩
def dh{d w0 r:World}{c:Nat}{i:Ins}{t:Tr}{f:UInt8}{C:Value}{ta da:Option Addr}{tc s g cap:Nat}{vs D:List Value}{T:Ty}{q:Int}{e:Option Addr}{o h S:Nat}{u:Int}(y:f=116\/f=117)
 (hM:kP K d w0 c i.types i.rows (.slice ta vs.length tc) C vs D) (hB:w0.heap[c]?=some (.cells #[.i i.p,.i i.n,.slice ta vs.length tc,C,.i i.data.k0,.i i.data.n0,.i i.data.p0,.string i.data.s0,.slice da i.data.args0.length s] 104 (0,0)))
 (hD:bI (λb=>K b/\b+1<c) d i.data (af i.data.k0 i.data.n0 i.data.p0 i.data.s0 da i.data.args0.length s))
 (hS:d.heap.size<=S) (h1:∀k,(Value.slice ta vs.length tc).ownBlock=some k->k<S) (h2:∀k,C.ownBlock=some k->k<S) (hT:aH (S <= ·) w0 T (bY q e o h))
 (ho:wS d.heap.size r (.slice (some ⟨g,0,none⟩) (vs.length+1) cap) (vs++[bY 0 none 0 0])) (hg:Gr w0 (.slice ta vs.length tc) r (.slice (some ⟨g,0,none⟩) (vs.length+1) cap))
 (hc:(u=0/\fu t=true/\T=kreadT t)\/(u=1/\fu t=false)) :
 lG K d c i f t (.returned (.bool (u==0))) (((r.setCell ⟨g,vs.length*2,none⟩ (.i q)).setCell ⟨g,vs.length*2+1,none⟩ (.slice e o h)).setCell ⟨c,2,none⟩ (.slice (some ⟨g,0,none⟩) (vs.length+1) cap)):=by
 have m:=Qt (Qt hg (vs.length*2) (.i q)) (vs.length*2+1) (.slice e o h);have A:=NY (k:=q) (sa:=e) (sl:=o) (sc:=h) ho;have x:=hM.YI hS h1 h2 hT m A;have E:=hM.lt;have v:=(m.block (qq.1 hB).1 (aD hM.nR hB ov)).trans hB;have z:=dY (bM ((r.setCell ⟨g,vs.length*2,none⟩ (.i q)).setCell ⟨g,vs.length*2+1,none⟩ (.slice e o h)) (some c)) 2 none (.slice (some ⟨g,0,none⟩) (vs.length+1) cap);have a:=x.step z;have w:=XF v (.slice (some ⟨g,0,none⟩) (vs.length+1) cap);have l:¬f=110:=by rcases y with rfl|rfl<;>decide
 rcases hc with⟨rfl,B,rfl⟩|⟨rfl,B⟩
 .refine yC (j:={ i with types:=i.types++[kreadT t] }) ?_ a.grow ⟨_,_,_,_,da,s,w,a,hD⟩;unfold iy;rw[if_neg l,if_pos y,if_pos B]
 .refine uN ?_ a.grow;unfold iy;rw[if_neg l,if_pos y,if_neg (by simp[B])]
def oh{e w0 o:World}{d:Nat}{i:Ins}{t:Tr}{f:UInt8}{tv:Value}{ra da na:Option Addr}{rc q nc g cap:Nat}{vs a:List Value}{VN:Nat->Value}(l:f=99\/f=100)
 (hM:kP K e w0 d i.types i.rows tv (.slice ra a.length rc) vs a) (hB:w0.heap[d]?=some (.cells #[.i i.p,.i i.n,tv,.slice ra a.length rc,.i i.data.k0,.i i.data.n0,.i i.data.p0,.string i.data.s0,.slice da i.data.args0.length q] 104 (0,0)))
 (hD:bI (λb=>K b/\b+1<d) e i.data (af i.data.k0 i.data.n0 i.data.p0 i.data.s0 da i.data.args0.length q))
 (hN:cK (λb=>K b/\b+1<d) e t.args0 na VN/\t.args0.length<=nc)
 (ho:AU e.heap.size o (.slice (some ⟨g,0,none⟩) (a.length+1) cap) (a++[.slice na t.args0.length nc])) (hg:Gr w0 (.slice ra a.length rc) o (.slice (some ⟨g,0,none⟩) (a.length+1) cap)) :
 lG K e d i f t (.returned (.bool (t.k0==3))) (o.setCell ⟨d,3,none⟩ (.slice (some ⟨g,0,none⟩) (a.length+1) cap)):=by
 have u:=hM.YH hN.1 hN.2 hg ho;have r:=(hg.block (qq.1 hB).1 (aD hM.sD hB ov)).trans hB;have v:=dY (bM o (some d)) 3 none (.slice (some ⟨g,0,none⟩) (a.length+1) cap);have c:=u.step v;have s:=XG r (.slice (some ⟨g,0,none⟩) (a.length+1) cap);have h:¬f=110:=by rcases l with rfl|rfl<;>decide
 have k:¬(f=116\/f=117):=by rcases l with rfl|rfl<;>decide
 by_cases m:t.k0=3
 .rw[show (t.k0==3)=true by simpa using m];refine yC (j:={ i with rows:=i.rows++[t.args0] }) ?_ c.grow ⟨_,_,_,_,da,q,s,c,hD⟩;unfold iy;rw[if_neg h,if_neg k,if_pos l,if_pos m]
 .rw[show (t.k0==3)=false by simpa using m];refine uN ?_ c.grow;unfold iy;rw[if_neg h,if_neg k,if_pos l,if_neg m]
def zA{b:Array Oper}{o:Oper}{a:Act}{K:Act->World->Prop}{Q:Exit->Act->World->Prop}{E:Prop}(B:Nat)(vs:List Value)(sa:Option Addr)(sl sc:Nat)(w0:World)(v:Value)(d:o.guard=none)(s x:Operand)
 (ho:o.op =.call { callee:=.builtin .append,args:=#[s,x],argTypes:=#[102,102] }) (hs:a.eval s=v) {H:Nat} (hx:a.eval x =.slice (some ⟨H,0,none⟩) 1 1) (hH:w0.heap.size=H)
 (hown:AU B w0 v vs) (hB:B<=w0.heap.size) (hlen:vs.length<=1000000000)
 (h:∀g cap w',AU B w' (.slice (some ⟨g,0,none⟩) (vs.length+1) cap) (vs++[.slice sa sl sc])->Gr w0 v w' (.slice (some ⟨g,0,none⟩) (vs.length+1) cap)->K (a.put o.dst (.slice (some ⟨g,0,none⟩) (vs.length+1) cap)) w') :
 if Region.wanted o (yielded b a.tmps)=true then Oper.wp prog o a (w0.alloc (.cells #[.slice sa sl sc] 24)) K Q else E:=by
 have n:Region.wanted o (yielded b a.tmps)=true:=by simp[Region.wanted,d]
 rw[if_pos n];obtain⟨p,m,e,f,i⟩:=qg1 Uf;subst hH;refine wp_append_lies _ s x 102 ho B 24 p _ 1 24 underlying102 m e f i rfl ov v vs.length vs hs (xo hown _) ⟨w0.heap.size,0,none⟩ 1 1 [.slice sa sl sc] hx rfl ?_ ?_ ov ?_ ?_ ?_ _ rfl ?_
 .exact qg0 (w:=w0.alloc _) (B:=w0.heap.size) (cs:=#[.slice sa sl sc]) (qT _ _)
 .intro u j;simp at j;subst j;rfl
 .unfold maxLen;omega
 .omega
 .simp;omega
 .intro g cap w' k l c _;refine h g cap w' ?_ ?_
  .unfold AU;rw[qS];exact k
  .refine Gr.trans (Gr.alloc (Gr.refl w0 v) _) ⟨l,?_⟩;rcases c with c|c
   .exact .inl c.symm
   .exact .inr ⟨g,rfl,od⟩
def R7{C W:World}{B:Nat}{i:Ins}{t:Tr}{nv:Value}{f:UInt8}{c:Int}(hf:f=116/\c=116\/f=117/\c=117)(hI:nA K C W B i)(hL:bI (λb=>K b/\b+1<B) C t nv)(az:i.types.length<=1000)(ax:i.rows.length<=1000) :
 Calls prog 101 #[.pointer (some ⟨B,0,none⟩),.int .u8 c,nv] W (lG K C B i f t):=by
 obtain⟨tv,rv,A,aE,da,dc,X,hM,hD⟩:=hI;obtain⟨na,nc,VN,e1,⟨ik,iN,ip,ay⟩,an⟩:=hL.yX;rw[e1];unfold af;have O:=aK (w:=W) (.cells #[.i t.k0,.i t.n0,.i t.p0,.string t.s0,.slice na t.args0.length nc] 26);have ad:=qT W (.cells #[.i t.k0,.i t.n0,.i t.p0,.string t.s0,.slice na t.args0.length nc] 26);have ab:=l5 X O;have F:=hM.call O;obtain⟨m0,m1,m2,m3,m4⟩:=bE ad;have H:Same (λb=>K b/\b+1<B) C (W.alloc (.cells #[.i t.k0,.i t.n0,.i t.p0,.string t.s0,.slice na t.args0.length nc] 26)):=λb o X hl=>qn (F.grow.block b hl (by have : b+1<B:=X.2;simp;omega));have HP:=jh (Bv ((hL.same H).ae (ok':=(· < (W.alloc (.cells #[.i t.k0,.i t.n0,.i t.p0,.string t.s0,.slice na t.args0.length nc] 26)).heap.size)) (λb X _=>X)));rw[e1]at HP;unfold af at HP;obtain⟨R,U,rfl,_⟩:=vB F.nR;have aC:A.length<=1000:=by have:=F.CU;omega
 obtain⟨z,I,aj⟩:=we hD F ab;clear O ad F ab hM hD X hL an e1 H;have b1:(A.length:Int)<(A.length:Int)+1:=od
 have b2:(0:Int)<=(A.length:Int):=od
 have b3:A.length<A.length+1:=od
 rcases hf with⟨rfl,rfl⟩|⟨rfl,rfl⟩
 all_goals
  go_enter func101,ntmps101;go_wp2_with fail;generalize W.alloc _=W2 at *;refine HP.mono ?_;rintro e V ai;obtain⟨T,tt,Y,ll,Z,er,rfl,hg,M,G⟩:=ai.form;have Q:=aK (w:=V) (.cells #[.i tt,.slice Y ll Z] 54);have ah:=qT V (.cells #[.i tt,.slice Y ll Z] 54);have J:(V.alloc (.cells #[.i tt,.slice Y ll Z] 54)).grownBy (V.alloc (.cells #[.i tt,.slice Y ll Z] 54)).drew none:=fK (bM _ _);have P:=aJ hg (aJ Q J);have m:=jh (l5 aj P);have j:=jh (I.call P);have ao:Same (W2.heap.size <= ·) V (V.alloc (.cells #[.i tt,.slice Y ll Z] 54)).drew:=λb o _ hl=>qn ((aJ Q J).block b hl ot);have u:=jh (M.same ao);have s:Hid (C.heap.size<=W2.heap.size):=I.out.grow.size;have q:Hid (∀k,(Value.slice R A.length U).ownBlock=some k->k<W2.heap.size):=λk hk=>(kp I.nR k hk).2;have r:Hid (∀k,rv.ownBlock=some k->k<W2.heap.size):=λk hk=>(kp I.sD k hk).2;have N:=l5 ah J;have x0:=xq N;have x1:=wy N;obtain⟨c0,c1,c2,c3,_⟩:=nL m;have au:True:=trivial;have d:=jh G;have aq:=jh M;clear hg Q J ah P M m0 m1 m2 m3 m4 HP ai N G;go_wp2_with fail;refine qh6 (S:=λ_=>True) oA ?_ (λak=>?_)
  .trivial
  generalize (V.alloc _).drew=L at *;have ar:=JJ (aK (w:=L) (.cells #[.i 0,.n0] 54)) c2;have aO:=JJ (aK (w:=L) (.cells #[.i 0,.n0] 54)) x0;have ba:=JJ (aK (w:=L) (.cells #[.i 0,.n0] 54)) x1;refine fG 0 38 ?_;refine fG 1 39 ?_;refine fG 2 40 ?_;refine kA (rs:=[3,4,6]) oA ot ?_;refine jx rfl (λK a=>?_) (jx rfl (λK a=>?_) (jx rfl (λK a=>?_) kj))
  .go_simp;refine a _ _ trivial (λ_=>?_);clear a K;refine fG 5 43 ?_;refine kA (rs:=[4,6]) oA ot ?_;refine jx rfl (λK a=>?_) (jx rfl (λK a=>?_) kj)
   .go_simp;refine a _ _ trivial (λ_=>?_);clear a K;refine kA (rs:=[6]) oA ot ?_;refine jx rfl (λK a=>?_) kj
    .go_simp;refine a _ _ trivial (λ_=>?_);clear a K;refine kA (rs:=[7]) oA ot ?_;refine jx rfl (λK a=>?_) kj;refine EX C.heap.size A 0 none 0 0 L (.slice R A.length U) rfl (.tmp 41) (.tmp 44) rfl rfl rfl rfl j.nR j.grow.size od ?_;intro g D w3 y x;have p:=jh y;have n:=jh x;obtain⟨g0,g1,g2,g3⟩:=vz y;have l:g≠B:=by have:=j.out.lt;omega
     have v:=(x.block (qq.1 m).1 (aD j.nR m ov)).trans m;have d2:=(nL v).2.2.1;have E:=pM v;clear y x v;refine a _ _ trivial (λ_=>?_);clear a K;refine fG 8 46 ?_;refine fG 10 47 ?_;refine fG 11 48 ?_;refine kA (rs:=[9,12]) oA ot ?_;refine jx rfl (λK a=>?_) (jx rfl (λK a=>?_) kj)
     .go_simp;refine a _ _ trivial (λ_=>?_);clear a K;refine kA (rs:=[12]) oA ot ?_;refine jx rfl (λK a=>?_) kj;go_simp;refine a _ _ trivial (λ_=>?_);clear a K;refine qd6 oA ?_ _;go_wp2_with fail;go_ret
      first|exact dh (.inl rfl) j m z s q r u p n d|exact dh (.inr rfl) j m z s q r u p n d
     .go_simp;refine a _ _ trivial (λ_=>?_);clear a K;refine kA (rs:=[9]) oA ot ?_;refine jx rfl (λK a=>?_) kj;go_simp;refine a _ _ trivial (λ_=>?_);clear a K;refine qd6 oA ?_ _;go_wp2_with fail;go_ret
      first
      | (have h:=dh (.inl rfl) j m z s q r u p n d;rw[bu _ _ l,bu _ _ l]at h;exact h)
      | (have h:=dh (.inr rfl) j m z s q r u p n d;rw[bu _ _ l,bu _ _ l]at h;exact h)
   .go_simp;refine a _ _ trivial (λ_=>?_);clear a K;refine kA (rs:=[4]) oA ot ?_;refine jx rfl (λK a=>?_) kj
    .go_simp;refine a _ _ trivial (λ_=>?_);clear a K;refine kA (rs:=[7]) oA ot ?_;refine jx rfl (λK a=>?_) kj;refine EX C.heap.size A 0 none 0 0 L (.slice R A.length U) rfl (.tmp 41) (.tmp 44) rfl rfl rfl rfl j.nR j.grow.size od ?_;intro g D w3 y x;have p:=jh y;have n:=jh x;obtain⟨g0,g1,g2,g3⟩:=vz y;have l:g≠B:=by have:=j.out.lt;omega
     have v:=(x.block (qq.1 m).1 (aD j.nR m ov)).trans m;have d2:=(nL v).2.2.1;have E:=pM v;clear y x v;refine a _ _ trivial (λ_=>?_);clear a K;refine fG 8 46 ?_;refine fG 10 47 ?_;refine fG 11 48 ?_;refine kA (rs:=[9,12]) oA ot ?_;refine jx rfl (λK a=>?_) (jx rfl (λK a=>?_) kj)
     .go_simp;refine a _ _ trivial (λ_=>?_);clear a K;refine kA (rs:=[12]) oA ot ?_;refine jx rfl (λK a=>?_) kj;go_simp;refine a _ _ trivial (λ_=>?_);clear a K;refine qd6 oA ?_ _;go_wp2_with fail;go_ret
      first|exact dh (.inl rfl) j m z s q r u p n d|exact dh (.inr rfl) j m z s q r u p n d
     .go_simp;refine a _ _ trivial (λ_=>?_);clear a K;refine kA (rs:=[9]) oA ot ?_;refine jx rfl (λK a=>?_) kj;go_simp;refine a _ _ trivial (λ_=>?_);clear a K;refine qd6 oA ?_ _;go_wp2_with fail;go_ret
      first
      | (have h:=dh (.inl rfl) j m z s q r u p n d;rw[bu _ _ l,bu _ _ l]at h;exact h)
      | (have h:=dh (.inr rfl) j m z s q r u p n d;rw[bu _ _ l,bu _ _ l]at h;exact h)
  .go_simp;refine a _ _ trivial (λ_=>?_);clear a K;refine kA (rs:=[3,6]) oA ot ?_;refine jx rfl (λK a=>?_) (jx rfl (λK a=>?_) kj)
   .go_simp;refine a _ _ trivial (λ_=>?_);clear a K;refine fG 5 43 ?_;refine kA (rs:=[6]) oA ot ?_;refine jx rfl (λK a=>?_) kj
    .go_simp;refine a _ _ trivial (λ_=>?_);clear a K;refine kA (rs:=[7]) oA ot ?_;refine jx rfl (λK a=>?_) kj;refine EX C.heap.size A 0 none 0 0 L (.slice R A.length U) rfl (.tmp 41) (.tmp 44) rfl rfl rfl rfl j.nR j.grow.size od ?_;intro g D w3 y x;have p:=jh y;have n:=jh x;obtain⟨g0,g1,g2,g3⟩:=vz y;have l:g≠B:=by have:=j.out.lt;omega
     have v:=(x.block (qq.1 m).1 (aD j.nR m ov)).trans m;have d2:=(nL v).2.2.1;have E:=pM v;clear y x v;refine a _ _ trivial (λ_=>?_);clear a K;refine fG 8 46 ?_;refine fG 10 47 ?_;refine fG 11 48 ?_;refine kA (rs:=[9,12]) oA ot ?_;refine jx rfl (λK a=>?_) (jx rfl (λK a=>?_) kj)
     .go_simp;refine a _ _ trivial (λ_=>?_);clear a K;refine kA (rs:=[12]) oA ot ?_;refine jx rfl (λK a=>?_) kj;go_simp;refine a _ _ trivial (λ_=>?_);clear a K;refine qd6 oA ?_ _;go_wp2_with fail;go_ret
      first|exact dh (.inl rfl) j m z s q r u p n d|exact dh (.inr rfl) j m z s q r u p n d
     .go_simp;refine a _ _ trivial (λ_=>?_);clear a K;refine kA (rs:=[9]) oA ot ?_;refine jx rfl (λK a=>?_) kj;go_simp;refine a _ _ trivial (λ_=>?_);clear a K;refine qd6 oA ?_ _;go_wp2_with fail;go_ret
      first
      | (have h:=dh (.inl rfl) j m z s q r u p n d;rw[bu _ _ l,bu _ _ l]at h;exact h)
      | (have h:=dh (.inr rfl) j m z s q r u p n d;rw[bu _ _ l,bu _ _ l]at h;exact h)
   .go_simp;refine a _ _ trivial (λ_=>?_);clear a K;refine kA (rs:=[3]) oA ot ?_;refine jx rfl (λK a=>?_) kj
    .go_simp;refine a _ _ trivial (λ_=>?_);clear a K;refine fG 5 43 ?_;refine kA (rs:=[7]) oA ot ?_;refine jx rfl (λK a=>?_) kj;refine EX C.heap.size A 0 none 0 0 L (.slice R A.length U) rfl (.tmp 41) (.tmp 44) rfl rfl rfl rfl j.nR j.grow.size od ?_;intro g D w3 y x;have p:=jh y;have n:=jh x;obtain⟨g0,g1,g2,g3⟩:=vz y;have l:g≠B:=by have:=j.out.lt;omega
     have v:=(x.block (qq.1 m).1 (aD j.nR m ov)).trans m;have d2:=(nL v).2.2.1;have E:=pM v;clear y x v;refine a _ _ trivial (λ_=>?_);clear a K;refine fG 8 46 ?_;refine fG 10 47 ?_;refine fG 11 48 ?_;refine kA (rs:=[9,12]) oA ot ?_;refine jx rfl (λK a=>?_) (jx rfl (λK a=>?_) kj)
     .go_simp;refine a _ _ trivial (λ_=>?_);clear a K;refine kA (rs:=[12]) oA ot ?_;refine jx rfl (λK a=>?_) kj;go_simp;refine a _ _ trivial (λ_=>?_);clear a K;refine qd6 oA ?_ _;go_wp2_with fail;go_ret
      first|exact dh (.inl rfl) j m z s q r u p n d|exact dh (.inr rfl) j m z s q r u p n d
     .go_simp;refine a _ _ trivial (λ_=>?_);clear a K;refine kA (rs:=[9]) oA ot ?_;refine jx rfl (λK a=>?_) kj;go_simp;refine a _ _ trivial (λ_=>?_);clear a K;refine qd6 oA ?_ _;go_wp2_with fail;go_ret
      first
      | (have h:=dh (.inl rfl) j m z s q r u p n d;rw[bu _ _ l,bu _ _ l]at h;exact h)
      | (have h:=dh (.inr rfl) j m z s q r u p n d;rw[bu _ _ l,bu _ _ l]at h;exact h)
  .go_simp;refine a _ _ trivial (λ_=>?_);clear a K;refine kA (rs:=[3,4]) oA ot ?_;refine jx rfl (λK a=>?_) (jx rfl (λK a=>?_) kj)
   .go_simp;refine a _ _ trivial (λ_=>?_);clear a K;refine fG 5 43 ?_;refine kA (rs:=[4]) oA ot ?_;refine jx rfl (λK a=>?_) kj
    .go_simp;refine a _ _ trivial (λ_=>?_);clear a K;refine kA (rs:=[7]) oA ot ?_;refine jx rfl (λK a=>?_) kj;refine EX C.heap.size A 0 none 0 0 L (.slice R A.length U) rfl (.tmp 41) (.tmp 44) rfl rfl rfl rfl j.nR j.grow.size od ?_;intro g D w3 y x;have p:=jh y;have n:=jh x;obtain⟨g0,g1,g2,g3⟩:=vz y;have l:g≠B:=by have:=j.out.lt;omega
     have v:=(x.block (qq.1 m).1 (aD j.nR m ov)).trans m;have d2:=(nL v).2.2.1;have E:=pM v;clear y x v;refine a _ _ trivial (λ_=>?_);clear a K;refine fG 8 46 ?_;refine fG 10 47 ?_;refine fG 11 48 ?_;refine kA (rs:=[9,12]) oA ot ?_;refine jx rfl (λK a=>?_) (jx rfl (λK a=>?_) kj)
     .go_simp;refine a _ _ trivial (λ_=>?_);clear a K;refine kA (rs:=[12]) oA ot ?_;refine jx rfl (λK a=>?_) kj;go_simp;refine a _ _ trivial (λ_=>?_);clear a K;refine qd6 oA ?_ _;go_wp2_with fail;go_ret
      first|exact dh (.inl rfl) j m z s q r u p n d|exact dh (.inr rfl) j m z s q r u p n d
     .go_simp;refine a _ _ trivial (λ_=>?_);clear a K;refine kA (rs:=[9]) oA ot ?_;refine jx rfl (λK a=>?_) kj;go_simp;refine a _ _ trivial (λ_=>?_);clear a K;refine qd6 oA ?_ _;go_wp2_with fail;go_ret
      first
      | (have h:=dh (.inl rfl) j m z s q r u p n d;rw[bu _ _ l,bu _ _ l]at h;exact h)
      | (have h:=dh (.inr rfl) j m z s q r u p n d;rw[bu _ _ l,bu _ _ l]at h;exact h)
   .go_simp;refine a _ _ trivial (λ_=>?_);clear a K;refine kA (rs:=[3]) oA ot ?_;refine jx rfl (λK a=>?_) kj
    .go_simp;refine a _ _ trivial (λ_=>?_);clear a K;refine fG 5 43 ?_;refine kA (rs:=[7]) oA ot ?_;refine jx rfl (λK a=>?_) kj;refine EX C.heap.size A 0 none 0 0 L (.slice R A.length U) rfl (.tmp 41) (.tmp 44) rfl rfl rfl rfl j.nR j.grow.size od ?_;intro g D w3 y x;have p:=jh y;have n:=jh x;obtain⟨g0,g1,g2,g3⟩:=vz y;have l:g≠B:=by have:=j.out.lt;omega
     have v:=(x.block (qq.1 m).1 (aD j.nR m ov)).trans m;have d2:=(nL v).2.2.1;have E:=pM v;clear y x v;refine a _ _ trivial (λ_=>?_);clear a K;refine fG 8 46 ?_;refine fG 10 47 ?_;refine fG 11 48 ?_;refine kA (rs:=[9,12]) oA ot ?_;refine jx rfl (λK a=>?_) (jx rfl (λK a=>?_) kj)
     .go_simp;refine a _ _ trivial (λ_=>?_);clear a K;refine kA (rs:=[12]) oA ot ?_;refine jx rfl (λK a=>?_) kj;go_simp;refine a _ _ trivial (λ_=>?_);clear a K;refine qd6 oA ?_ _;go_wp2_with fail;go_ret
      first|exact dh (.inl rfl) j m z s q r u p n d|exact dh (.inr rfl) j m z s q r u p n d
     .go_simp;refine a _ _ trivial (λ_=>?_);clear a K;refine kA (rs:=[9]) oA ot ?_;refine jx rfl (λK a=>?_) kj;go_simp;refine a _ _ trivial (λ_=>?_);clear a K;refine qd6 oA ?_ _;go_wp2_with fail;go_ret
      first
      | (have h:=dh (.inl rfl) j m z s q r u p n d;rw[bu _ _ l,bu _ _ l]at h;exact h)
      | (have h:=dh (.inr rfl) j m z s q r u p n d;rw[bu _ _ l,bu _ _ l]at h;exact h)
def R6{I W:World}{z:Nat}{i:Ins}{t:Tr}{nv:Value}{f:UInt8}{c:Int}(hf:f=99/\c=99\/f=100/\c=100)(hI:nA K I W z i)(U:bI (λb=>K b/\b+1<z) I t nv)(ah:i.types.length<=1000)(ad:i.rows.length<=1000) :
 Calls prog 101 #[.pointer (some ⟨z,0,none⟩),.int .u8 c,nv] W (lG K I z i f t):=by
 obtain⟨tv,rv,vs,m,da,dc,X,V,Z⟩:=hI;obtain⟨A,B,VN,R,⟨ik,iN,ip,ae⟩,y⟩:=U.yX;have L:=And.intro y (U.Y5 R);clear y;rw[R];unfold af;have E:=aK (w:=W) (.cells #[.i t.k0,.i t.n0,.i t.p0,.string t.s0,.slice A t.args0.length B] 26);have C:=qT W (.cells #[.i t.k0,.i t.n0,.i t.p0,.string t.s0,.slice A t.args0.length B] 26);have M:=l5 X E;have v:=V.call E;obtain⟨m0,m1,m2,m3,m4⟩:=bE C;have x:(W.alloc (.cells #[.i t.k0,.i t.n0,.i t.p0,.string t.s0,.slice A t.args0.length B] 26)).grownBy (W.alloc (.cells #[.i t.k0,.i t.n0,.i t.p0,.string t.s0,.slice A t.args0.length B] 26)).drew none:=fK (bM _ _);have D:=l5 C x;obtain⟨y0,y1,y2,y3,y4⟩:=bE D;have r:=jh D;obtain⟨O,P,rfl,_⟩:=vB v.sD;have ai:m.length<=1000:=by have:=v.CS;omega
 obtain⟨H,h,d,s⟩:=JT Z (v.call x) (l5 M x) L;have G:some W.heap.size≠(Value.slice O m.length P).ownBlock:=λe=>by have:=(kp V.sD W.heap.size e.symm).2;omega
 have F:W.heap.size≠z:=by have:=(qq.1 X).1;omega
 obtain⟨c0,c1,c2,c3,_⟩:=nL d;have ab:True:=trivial;clear E C v M V Z X U L R x D;rcases hf with⟨rfl,rfl⟩|⟨rfl,rfl⟩
 all_goals
  go_enter func101,ntmps101;go_wp2_with fail;refine qh6 (S:=λ_=>True) oA ?_ (λT=>?_)
  .trivial
  generalize (W.alloc _).drew=Q at *;have aa:=JJ (aK (w:=Q) (.cells #[.slice A t.args0.length B] 24)) c3;refine fG 0 54 ?_;refine fG 1 55 ?_;refine fG 2 56 ?_;refine fG 3 57 ?_;refine fG 5 59 ?_;refine kA (rs:=[4,6]) oA ot ?_;refine jx rfl (λK a=>?_) (jx rfl (λK a=>?_) kj)
  .go_simp;refine a _ _ trivial (λ_=>?_);clear a K;refine kA (rs:=[6]) oA ot ?_;refine jx rfl (λK a=>?_) kj;go_simp;refine a _ _ trivial (λ_=>?_);clear a K;refine kA (rs:=[7]) oA ot ?_;refine jx rfl (λK a=>?_) kj;go_simp;refine a _ _ trivial (λ_=>?_);clear a K;refine kA (rs:=[8]) oA ot ?_;refine jx rfl (λK a=>?_) kj;refine zA I.heap.size m A t.args0.length B Q (.slice O m.length P) rfl (.tmp 58) (.tmp 61) rfl rfl rfl rfl h.sD h.grow.size od ?_;intro g u N q j;have o:=jh q;have n:=jh j;have l:=(j.block (qq.1 d).1 (aD h.sD d ov)).trans d;have Y:=(nL l).2.2.2.1;have J:=pM l;have k:=(j.block (qq.1 r).1 G).trans r;have p:=((dY (bM N (some z)) 3 none (.slice (some ⟨g,0,none⟩) (m.length+1) u)).block _ (qq.1 k).1 (by simpa using F)).trans k;obtain⟨q0,_⟩:=bE k;obtain⟨r0,_⟩:=bE p;clear q j l k p;refine a _ _ trivial (λ_=>?_);clear a K;refine fG 9 63 ?_;refine fG 10 64 ?_;refine kA (rs:=[11]) oA ot ?_;refine jx rfl (λK a=>?_) kj;go_simp;refine a _ _ trivial (λ_=>?_);clear a K;refine qd6 oA ?_ _;go_wp2_with fail;go_ret
   first|exact oh (.inl rfl) h d H s o n|exact oh (.inr rfl) h d H s o n
  .go_simp;refine a _ _ trivial (λ_=>?_);clear a K;refine kA (rs:=[4,7]) oA ot ?_;refine jx rfl (λK a=>?_) (jx rfl (λK a=>?_) kj)
   .go_simp;refine a _ _ trivial (λ_=>?_);clear a K;refine kA (rs:=[7]) oA ot ?_;refine jx rfl (λK a=>?_) kj;go_simp;refine a _ _ trivial (λ_=>?_);clear a K;refine kA (rs:=[8]) oA ot ?_;refine jx rfl (λK a=>?_) kj;refine zA I.heap.size m A t.args0.length B Q (.slice O m.length P) rfl (.tmp 58) (.tmp 61) rfl rfl rfl rfl h.sD h.grow.size od ?_;intro g u N q j;have o:=jh q;have n:=jh j;have l:=(j.block (qq.1 d).1 (aD h.sD d ov)).trans d;have Y:=(nL l).2.2.2.1;have J:=pM l;have k:=(j.block (qq.1 r).1 G).trans r;have p:=((dY (bM N (some z)) 3 none (.slice (some ⟨g,0,none⟩) (m.length+1) u)).block _ (qq.1 k).1 (by simpa using F)).trans k;obtain⟨q0,_⟩:=bE k;obtain⟨r0,_⟩:=bE p;clear q j l k p;refine a _ _ trivial (λ_=>?_);clear a K;refine fG 9 63 ?_;refine fG 10 64 ?_;refine kA (rs:=[11]) oA ot ?_;refine jx rfl (λK a=>?_) kj;go_simp;refine a _ _ trivial (λ_=>?_);clear a K;refine qd6 oA ?_ _;go_wp2_with fail;go_ret
    first|exact oh (.inl rfl) h d H s o n|exact oh (.inr rfl) h d H s o n
   .go_simp;refine a _ _ trivial (λ_=>?_);clear a K;refine kA (rs:=[4]) oA ot ?_;refine jx rfl (λK a=>?_) kj;go_simp;refine a _ _ trivial (λ_=>?_);clear a K;refine kA (rs:=[8]) oA ot ?_;refine jx rfl (λK a=>?_) kj;refine zA I.heap.size m A t.args0.length B Q (.slice O m.length P) rfl (.tmp 58) (.tmp 61) rfl rfl rfl rfl h.sD h.grow.size od ?_;intro g u N q j;have o:=jh q;have n:=jh j;have l:=(j.block (qq.1 d).1 (aD h.sD d ov)).trans d;have Y:=(nL l).2.2.2.1;have J:=pM l;have k:=(j.block (qq.1 r).1 G).trans r;have p:=((dY (bM N (some z)) 3 none (.slice (some ⟨g,0,none⟩) (m.length+1) u)).block _ (qq.1 k).1 (by simpa using F)).trans k;obtain⟨q0,_⟩:=bE k;obtain⟨r0,_⟩:=bE p;clear q j l k p;refine a _ _ trivial (λ_=>?_);clear a K;refine fG 9 63 ?_;refine fG 10 64 ?_;refine kA (rs:=[11]) oA ot ?_;refine jx rfl (λK a=>?_) kj;go_simp;refine a _ _ trivial (λ_=>?_);clear a K;refine qd6 oA ?_ _;go_wp2_with fail;go_ret
    first|exact oh (.inl rfl) h d H s o n|exact oh (.inr rfl) h d H s o n
def XQ{n W:World}{g:Nat}{i:Ins}{t:Tr}{z:Value}{f:UInt8}{c:Int}(p:f≠110/\¬(f=116\/f=117)/\¬(f=99\/f=100))(D:nA K n W g i)(o:bI (λb=>K b/\b+1<g) n t z)(E:c≠110/\c≠116/\c≠117/\c≠99/\c≠100)(H:i.types.length<=1000)(F:i.rows.length<=1000) :
 Calls prog 101 #[.pointer (some ⟨g,0,none⟩),.int .u8 c,z] W (lG K n g i f t):=by
 obtain⟨tv,I,J,u,V,X,x,v,C⟩:=D;obtain⟨h,j,L,r,⟨Z,Y,ip,G⟩,s⟩:=o.yX;rw[r];unfold af;have e:=aK (w:=W) (.cells #[.i t.k0,.i t.n0,.i t.p0,.string t.s0,.slice h t.args0.length j] 26);have l:=qT W (.cells #[.i t.k0,.i t.n0,.i t.p0,.string t.s0,.slice h t.args0.length j] 26);have a:=l5 x e;have k:=v.call e;obtain⟨m0,m1,m2,m3,m4⟩:=bE l;have y:=XH a (.i t.k0) (.i t.n0) (.i t.p0) (.string t.s0) (.slice h t.args0.length j);have m:=dY (dY (dY (dY (dY (bM (W.alloc (.cells #[.i t.k0,.i t.n0,.i t.p0,.string t.s0,.slice h t.args0.length j] 26)) (some g)) 4 none (.i t.k0)) 5 none (.i t.n0)) 6 none (.i t.p0)) 7 none (.string t.s0)) 8 none (.slice h t.args0.length j);have d:=k.step m;rw[r]at o;have A:Hid (nA K n _ g { i with data:=t }):=⟨tv,I,J,u,h,j,y,d,o⟩;have q:=jh d.grow;have fr:=pM a;obtain⟨M,N,O,P,Q,R,S,T,U⟩:=nL a;have B:Hid (iy i f t=some { i with data:=t }):=by show _=_;unfold iy;rw[if_neg p.1,if_neg p.2.1,if_neg p.2.2]
 have p1:(c==110)=false:=vh
 have p2:(c==116)=false:=vh
 have p3:(c==117)=false:=vh
 have p4:(c==99)=false:=vh
 have p5:(c==100)=false:=vh
 clear d m y k a e l v C x o s r p E;go_enter func101,ntmps101;go_wp2_with fail;go_ret;exact yC B q A
variable {K:Nat->Prop}
def pK(p:Int)(W:World):Calls prog 100 #[.i p] W λe w'=>e =.returned (.string ⟨(bR p).toArray⟩)/\w'=W:=by
 by_cases a:p=41
 .subst a;go_enter func100,ntmps100;go_wp2_with fail;go_ret;exact⟨rfl,rfl⟩
 by_cases b:p=43
 .subst b;go_enter func100,ntmps100;go_wp2_with fail;go_ret;exact⟨rfl,rfl⟩
 by_cases c:p=44
 .subst c;go_enter func100,ntmps100;go_wp2_with fail;go_ret;exact⟨rfl,rfl⟩
 by_cases d:p=45
 .subst d;go_enter func100,ntmps100;go_wp2_with fail;go_ret;exact⟨rfl,rfl⟩
 by_cases f:p=50
 .subst f;go_enter func100,ntmps100;go_wp2_with fail;go_ret;exact⟨rfl,rfl⟩
 by_cases g:p=51
 .subst g;go_enter func100,ntmps100;go_wp2_with fail;go_ret;exact⟨rfl,rfl⟩
 by_cases j:p=54
 .subst j;go_enter func100,ntmps100;go_wp2_with fail;go_ret;exact⟨rfl,rfl⟩
 by_cases l:p=56
 .subst l;go_enter func100,ntmps100;go_wp2_with fail;go_ret;exact⟨rfl,rfl⟩
 by_cases u:p=82
 .subst u;go_enter func100,ntmps100;go_wp2_with fail;go_ret;exact⟨rfl,rfl⟩
 by_cases v:p=88
 .subst v;go_enter func100,ntmps100;go_wp2_with fail;go_ret;exact⟨rfl,rfl⟩
 by_cases o:p=61
 .subst o;go_enter func100,ntmps100;go_wp2_with fail;go_ret;exact⟨rfl,rfl⟩
 by_cases h:p=52
 .subst h;go_enter func100,ntmps100;go_wp2_with fail;go_ret;exact⟨rfl,rfl⟩
 by_cases k:p=55
 .subst k;go_enter func100,ntmps100;go_wp2_with fail;go_ret;exact⟨rfl,rfl⟩
 by_cases m:p=58
 .subst m;go_enter func100,ntmps100;go_wp2_with fail;go_ret;exact⟨rfl,rfl⟩
 by_cases q:p=64
 .subst q;go_enter func100,ntmps100;go_wp2_with fail;go_ret;exact⟨rfl,rfl⟩
 by_cases n:p=60
 .subst n;go_enter func100,ntmps100;go_wp2_with fail;go_ret;exact⟨rfl,rfl⟩
 by_cases r:p=65
 .subst r;go_enter func100,ntmps100;go_wp2_with fail;go_ret;exact⟨rfl,rfl⟩
 by_cases t:p=68
 .subst t;go_enter func100,ntmps100;go_wp2_with fail;go_ret;exact⟨rfl,rfl⟩
 by_cases s:p=66
 .subst s;go_enter func100,ntmps100;go_wp2_with fail;go_ret;exact⟨rfl,rfl⟩
 have w:bR p=[]:=by simp[bR,a,b,c,d,f,g,j,l,u,v,o,h,k,m,q,n,r,t,s]
 have y:(p==41)=false:=by simpa using a
 have z:(p==43)=false:=by simpa using b
 have A:(p==44)=false:=by simpa using c
 have B:(p==45)=false:=by simpa using d
 have C:(p==50)=false:=by simpa using f
 have D:(p==51)=false:=by simpa using g
 have F:(p==54)=false:=by simpa using j
 have H:(p==56)=false:=by simpa using l
 have P:(p==82)=false:=by simpa using u
 have Q:(p==88)=false:=by simpa using v
 have K:(p==61)=false:=by simpa using o
 have E:(p==52)=false:=by simpa using h
 have G:(p==55)=false:=by simpa using k
 have I:(p==58)=false:=by simpa using m
 have L:(p==64)=false:=by simpa using q
 have J:(p==60)=false:=by simpa using n
 have M:(p==65)=false:=by simpa using r
 have O:(p==68)=false:=by simpa using t
 have N:(p==66)=false:=by simpa using s
 have x:=jh w;clear w;go_enter func100,ntmps100;go_wp2_with fail;go_ret;exact⟨by rw[x.out];rfl,rfl⟩
variable {K:Nat->Prop}
def II{f:UInt8}{k:Nat}(hk:k<256)(h:f≠UInt8.ofNat k):(f.toNat:Int)≠(k:Int):=λe=>h (by
 have a:f.toNat=k:=od
 rw[<-a,UInt8.ofNat_toNat])
def R5{h W:World}{g:Nat}{i:Ins}{t:Tr}{p:Value}(f:UInt8)(d:nA K h W g i)(e:bI (λb=>K b/\b+1<g) h t p)(c:i.types.length<=1000)(a:i.rows.length<=1000) :
 Calls prog 101 #[.pointer (some ⟨g,0,none⟩),.int .u8 (f.toNat:Int),p] W (lG K h g i f t):=by
 by_cases j:f=110
 .subst j;exact Vq d e
 .by_cases l:f=116
  .subst l;exact R7 (.inl ⟨rfl,rfl⟩) d e c a
  .by_cases m:f=117
   .subst m;exact R7 (.inr ⟨rfl,rfl⟩) d e c a
   .by_cases n:f=99
    .subst n;exact R6 (.inl ⟨rfl,rfl⟩) d e c a
    .by_cases o:f=100
     .subst o;exact R6 (.inr ⟨rfl,rfl⟩) d e c a
     .exact XQ ⟨j,by simp[l,m],by simp[n,o]⟩ d e ⟨II (k:=110) ov j,II (k:=116) ov l,II (k:=117) ov m,II (k:=99) ov n,II (k:=100) ov o⟩ c a
def OA{i j:Ins}{f:UInt8}{t:Tr}(h:iy i f t=some j):j.types.length<=i.types.length+1/\j.rows.length<=i.rows.length+1:=by
 unfold iy at h;split at h
 .split at h
  .cases h;exact⟨jh5 _,jh5 _⟩
  .cases h
 .split at h
  .split at h
   .cases h;simp
   .cases h
  .split at h
   .split at h
    .cases h;simp
    .cases h
   .cases h;exact⟨jh5 _,jh5 _⟩
def EE (K:Nat->Prop) (r:Option Ins) (W:World) (e:Ending) (w':World):Prop :=
 W.grownBy w' none/\((r=none/\e =.returned (.tuple #[Af 0 0 none 0 0 none 0 0 0 0 0 ⟨#[]⟩ none 0 0,.bool false]))\/∃i ta tc ra rc da dc,r=some i/\e =.returned (.tuple #[Af i.p i.n ta i.types.length tc ra i.rows.length rc i.data.k0 i.data.n0 i.data.p0 i.data.s0 da i.data.args0.length dc,.bool true]) /\
  (i.types.length<=tc/\∃V,dw (W.heap.size <= ·) w' i.types ta V)/\PM (λb=>K b\/W.heap.size<=b) w' i.rows ra/\i.rows.length<=rc/\bI K w' i.data (af i.data.k0 i.data.n0 i.data.p0 i.data.s0 da i.data.args0.length dc))
def Kr (w:World) (g:Nat) (y0 y1 y2 y3 y4 y5 y6 y7 y8:Value):World:=((((((((w.setCell ⟨g,0,none⟩ y0).setCell ⟨g,1,none⟩ y1).setCell ⟨g,2,none⟩ y2).setCell ⟨g,3,none⟩ y3).setCell ⟨g,4,none⟩ y4).setCell ⟨g,5,none⟩ y5).setCell ⟨g,6,none⟩ y6).setCell ⟨g,7,none⟩ y7).setCell ⟨g,8,none⟩ y8
def Cm{w:World}{g:Nat}{T:TypeId}{x0 l m n o p q r s:Value}(h:w.heap[g]?=some (.cells #[x0,l,m,n,o,p,q,r,s] T (0,0)))(a b c d e f i j k:Value):(Kr w g a b c d e f i j k).heap[g]?=some (.cells #[a,b,c,d,e,f,i,j,k] T (0,0)):=by simp[Kr,World.setCell,yr,h]
def Eh(w:World)(g:Nat)(a b c d e f h i j:Value):w.grownBy (Kr w g a b c d e f h i j) (some g) :=
 dY (dY (dY (dY (dY (dY (dY (dY (dY (bM w (some g)) 0 none a) 1 none b) 2 none c) 3 none d) 4 none e) 5 none f) 6 none h) 7 none i) 8 none j
def uY{w d e:World}{b:Nat}(h:w.grownBy d none)(a:d.grownBy e (some b))(g:w.heap.size<=b):w.grownBy e none :=
 ⟨a.os.trans h.os,a.tape.trans h.tape,a.output.trans h.output,kh h.size a.size,λk c f=>(a.block k (jz c h.size) oB).trans (h.block k c f)⟩
def Iz{i j:Ins}{a:List UInt8}{l:List Tr}{k:Nat}(b:k<a.length)(c:k<l.length):takesF i (a.drop k) (l.drop k)=match iy i a[k] l[k]with
 | none=>none
 | some j=>takesF j (a.drop (k+1)) (l.drop (k+1)):=by
 rw[qa5 b,qa5 c];rfl
def Ke{W:World}{t:Tr}{nv:Value}(hL:bI K W t nv)(h1:t.k0=2)(h2:40<=t.p0)(h3:t.args0.length=(bR t.p0).length) :
 Calls prog 67 #[nv] W (EE K (takesF ⟨t.p0,0,[],[],tr0⟩ (bR t.p0) t.args0) W):=by
 obtain⟨na,nc,VN,e1,⟨ik,iN,ip,bo⟩,X⟩:=hL.yX;rw[e1];unfold af;have bl:t.args0.length<=3:=by rw[h3];unfold bR;split<;>(try split)<;>(try split)<;>(try split)<;>(try split)<;>(try split)<;>(try split)<;>simp
 have bp:(ByteArray.mk (bR t.p0).toArray).size=t.args0.length:=by rw[h3];simp[ByteArray.size]
 obtain⟨F,aC,U,T⟩:=XJ W (.cells #[.i 2,.i t.n0,.i t.p0,.string t.s0,.slice na t.args0.length nc] 26) (.cells #[.i 0,.i 0,.n0,.n0,.i 0,.i 0,.i 0,.string ⟨#[]⟩,.n0] 104) (.cells #[.i t.p0,.i 0,.n0,.n0,.i 0,.i 0,.i 0,.string ⟨#[]⟩,.n0] 104);have B:(((W.alloc (.cells #[.i 2,.i t.n0,.i t.p0,.string t.s0,.slice na t.args0.length nc] 26)).alloc (.cells #[.i 0,.i 0,.n0,.n0,.i 0,.i 0,.i 0,.string ⟨#[]⟩,.n0] 104)).alloc (.cells #[.i t.p0,.i 0,.n0,.n0,.i 0,.i 0,.i 0,.string ⟨#[]⟩,.n0] 104)).heap.size=W.heap.size+1+1+1:=ot
 have N:Hid (cK (λb=>K b/\b+1<W.heap.size+1+1) _ t.args0 na VN):=((X.ae (ok':=λb=>K b/\b<W.heap.size) (λb g h=>⟨h,g⟩)).same (λb o g _=>qn (F.block b g.2 ot))).ae (λb _ g=>⟨g.1,by have : b<W.heap.size:=g.2;omega⟩);have L:Hid (nA K _ _ (W.heap.size+1+1) ⟨t.p0,0,[],[],tr0⟩):=⟨.n0,.n0,[],[],none,0,T,⟨bM _ _,by rw[B];omega,qa2 _ _ _ _,rfl,λk t u h=>by simp at h,qa2 _ _ _ _,rfl,λk t u h=>by simp at h⟩,bI.mk (hk:=kB _) (λ_=>.i 0) (kB _) (kB _) ⟨ov,ov⟩ ⟨ov,ov⟩ ⟨ov,ov⟩ (λi hi=>by cases hi) (λi hi=>by cases hi)⟩;obtain⟨z,m,bd⟩:=we F U B;have bc:¬t.p0<40:=od
 have bj:(bR t.p0).length=t.args0.length:=h3.symm;obtain⟨q,hq⟩:∃q,q=takesF ⟨t.p0,0,[],[],tr0⟩ (bR t.p0) t.args0:=⟨_,rfl⟩;rw[<-hq];have HQ:=jh hq;generalize t.k0=kk at *;subst h1;clear hq hL X F aC U T B h3 e1 h2;go_enter func67,ntmps67;go_wp2_with fail;refine (pK _ _).mono ?_;rintro e w1 ⟨rfl,rfl⟩;go_wp2_with fail;generalize ((W.alloc _).alloc _).alloc _=WB at *;go_loopw [34] (λiv wr=>∃(j:Nat) (i:Ins),j<=t.args0.length/\iv =.i j/\nA K WB wr (W.heap.size+1+1) i/\i.types.length<=j/\i.rows.length<=j/\q=takesF i ((bR t.p0).drop j) (t.args0.drop j)) (λiv _=>t.args0.length - (intOf iv).toNat)
 case atStart=>exact⟨0,_,kB _,rfl,L,qv _,qv _,HQ⟩
 case round =>
  obtain⟨j,i,hj,rfl,J,bq,bn,aj⟩:=hrel;have d:WB.grownBy wr (some (W.heap.size+1+1)):=by obtain⟨_,_,_,_,_,_,_,hm,_⟩:=J;exact hm.grow
  have hR:=(d.block _ (qq.1 m).1 ot).trans m;have c:=jh aj;have ao:=jh d;clear aj L HQ
  by_cases I:j<t.args0.length
  .obtain⟨b,o,rfl,aE,k',n',p',s',a',l',c',hv,y0,y1,y2,y3,y4⟩:=N.out.2.1 j I;have A:=N.out.2.2 j I;rw[hv]at A;have s:j<(bR t.p0).length:=by omega
   have aO:(j:Int)<(t.args0.length:Int):=od
   have a:∀{o:Nat} {v:Value},WB.cell? ⟨b,o,none⟩=some v->wr.cell? ⟨b,o,none⟩=some v:=λ{o v} h=>(qn (d.block b (kd WB _ h) (by have h1:b+1<W.heap.size+1+1:=aE.2;simp;omega))).trans h;have z0:=a y0;have z1:=a y1;have z2:=a y2;have z3:=a y3;have z4:=a y4;have ab:=aK (w:=wr) (.cells #[.i k',.i n',.i p',.string s',.slice a' l' c'] 26);have Z:=qT wr (.cells #[.i k',.i n',.i p',.string s',.slice a' l' c'] 26);have G:(wr.alloc (.cells #[.i k',.i n',.i p',.string s',.slice a' l' c'] 26)).grownBy (wr.alloc (.cells #[.i k',.i n',.i p',.string s',.slice a' l' c'] 26)).drew none:=fK (bM _ _);obtain⟨n0,n1,n2,n3,n4⟩:=bE (l5 Z G);have HT:=jh (R5 ((bR t.p0)[j]'s) (J.call (aJ ab G)) A od od);have l:=jh (Iz (i:=i) (j:=i) s I);have bk:True:=trivial;have bm:(ByteArray.mk (bR t.p0).toArray).data[j]?=some ((bR t.p0)[j]'s):=by simp[s]
   clear J A ab Z G d hR a y0 y1 y2 y3 y4;go_wp2_with fail;refine qh6 (S:=λ_=>True) oA ?_ (λaz=>?_)
   .trivial
   generalize (wr.alloc _).drew=w5 at *;refine fG 0 39 ?_;refine fG 1 40 ?_;refine fG 2 41 ?_;refine kA (rs:=[3]) oA ot ?_;refine jx rfl (λK R=>?_) kj;go_simp;refine R _ _ trivial (λ_=>?_);clear R K;refine kA (rs:=[4]) oA ot ?_;refine jx rfl (λK R=>?_) kj;go_simp;go_at_call 101;refine HT.mono ?_;rintro e w6 ⟨ok,rfl,x,D⟩;refine R _ _ trivial (λ_=>?_);clear R K HT;refine fG 5 44 ?_;refine qd6 oA ?_ _;rcases D with⟨rfl,ai⟩|⟨rfl,i2,f,Q⟩
   .have ba:q=none:=by rw[c.out,l.out,ai]
    subst ba;have r:=(x.block _ (qq.1 m).1 ot).trans m;obtain⟨r0,r1,r2,r3,r4,r5,r6,r7,r8⟩:=nL r;have rf:=pM r;have ay:=jh r;have aq:=jh (uY z x od);clear r x ai l c n0 n1 n2 n3 n4 z0 z1 z2 z3 z4;go_wp2_with fail;change bodyPost _ _ _ _ _ (Kr w6 (W.heap.size+1) (.i 0) (.i 0) (.n0) (.n0) (.i 0) (.i 0) (.i 0) (.string ⟨#[]⟩) (.n0));have C:=Cm ay (.i 0) (.i 0) (.n0) (.n0) (.i 0) (.i 0) (.i 0) (.string ⟨#[]⟩) (.n0);have E:=uY aq (Eh w6 (W.heap.size+1) (.i 0) (.i 0) (.n0) (.n0) (.i 0) (.i 0) (.i 0) (.string ⟨#[]⟩) (.n0)) (jh5 _);generalize Kr w6 (W.heap.size+1) _ _ _ _ _ _ _ _ _=wf at *;obtain⟨s0,s1,s2,s3,s4,s5,s6,s7,s8⟩:=nL C;exact zv (v:=.tuple #[Af 0 0 none 0 0 none 0 0 0 0 0 ⟨#[]⟩ none 0 0,.bool false]) (by simp[results,results67,go_sem,s0,s1,s2,s3,s4,s5,s6,s7,s8,Af]) rfl ⟨E,.inl ⟨rfl,rfl⟩⟩
   .have ar:=jh Q;have M:=jh (OA f);have y:q=takesF i2 ((bR t.p0).drop (j+1)) (t.args0.drop (j+1)):=by rw[c.out,l.out,f]
    have ax:=jh y;clear y Q f x l c n0 n1 n2 n3 n4 z0 z1 z2 z3 z4;go_wp2_with fail;go_roundw
    case rel=>exact⟨j+1,i2,od,OF,ar,by have:=M.out;omega,by have:=M.out;omega,ax⟩
    case measure=>simp[intOf];omega
  .have aO:¬(j:Int)<(t.args0.length:Int):=by omega
   have y:q=some i:=by rw[c.out,jc6 od,jc6 od];rfl
   subst y;obtain⟨ta,tc,ra,rc,O,P,H,_⟩:=J.done (bM wr (some (W.heap.size+1))) rfl;have HI:=jh J;obtain⟨v0,v1,v2,v3,v4,v5,v6,v7,v8⟩:=nL H;obtain⟨r0,r1,r2,r3,r4,r5,r6,r7,r8⟩:=nL hR;have rf:=pM hR;have HR:=jh hR;have au:=jh H;clear H hR J c d;go_wp2_with fail;change bodyPost _ _ _ _ _ (Kr wr (W.heap.size+1) (.i i.p) (.i i.n) (.slice ta i.types.length tc) (.slice ra i.rows.length rc) (.i i.data.k0) (.i i.data.n0) (.i i.data.p0) (.string i.data.s0) (.slice O i.data.args0.length P));have C:=Cm HR (.i i.p) (.i i.n) (.slice ta i.types.length tc) (.slice ra i.rows.length rc) (.i i.data.k0) (.i i.data.n0) (.i i.data.p0) (.string i.data.s0) (.slice O i.data.args0.length P);have ad:=Eh wr (W.heap.size+1) (.i i.p) (.i i.n) (.slice ta i.types.length tc) (.slice ra i.rows.length rc) (.i i.data.k0) (.i i.data.n0) (.i i.data.p0) (.string i.data.s0) (.slice O i.data.args0.length P);have E:=uY (uY z ao od) ad (jh5 _);obtain⟨bb,bw,br,bt,bf,bh,ah,⟨ak,V1,an⟩,k2,k3,k4⟩:=HI.out.done ad rfl;have Y:W.heap.size<=_:=z.out.size;have k1:=(⟨ak,V1,an.ae (λb _ g=>kh Y g)⟩:_/\∃V,dw (W.heap.size <= ·) _ i.types bb V);replace k2:=k2.mono (J':=λb=>K b\/W.heap.size<=b) (λb g=>g.imp id (kh Y));clear ak an;have aa:=au.out.symm.trans ah;simp only[qk,Obj.cells.injEq,qc1,xj,ke,true_and,and_true]at aa;obtain⟨⟨rfl,rfl⟩,⟨rfl,rfl⟩,⟨rfl,rfl⟩⟩:=aa;generalize Kr wr (W.heap.size+1) _ _ _ _ _ _ _ _ _=wf at *;obtain⟨s0,s1,s2,s3,s4,s5,s6,s7,s8⟩:=nL C;exact zv (v:=.tuple #[Af i.p i.n ta i.types.length tc ra i.rows.length rc i.data.k0 i.data.n0 i.data.p0 i.data.s0 O i.data.args0.length P,.bool true]) (by simp[results,results67,go_sem,s0,s1,s2,s3,s4,s5,s6,s7,s8,Af]) rfl ⟨E,.inr ⟨i,ta,tc,ra,rc,O,P,rfl,rfl,k1,k2,k3,k4⟩⟩
def Rn{W:World}{t:Tr}{z:Value}(x:bI K W t z)(h:¬(t.k0=2/\40<=t.p0/\t.args0.length=(bR t.p0).length)) :
 Calls prog 67 #[z] W (EE K none W):=by
 obtain⟨G,H,I,u,⟨O,N,P,F⟩,f⟩:=x.yX;rw[u];unfold af;obtain⟨g,d,a⟩:=Z9 W (.cells #[.i t.k0,.i t.n0,.i t.p0,.string t.s0,.slice G t.args0.length H] 26) (.cells #[.i 0,.i 0,.n0,.n0,.i 0,.i 0,.i 0,.string ⟨#[]⟩,.n0] 104);obtain⟨Q,R,S,T,U⟩:=bE d;obtain⟨V,X,Y,Z,r4,r5,r6,r7,r8⟩:=nL a;have rf:=pM a;have b:=jh g;have c:=jh a;have E:(bR t.p0).length<=3:=by unfold bR;split<;>(try split)<;>(try split)<;>(try split)<;>(try split)<;>(try split)<;>(try split)<;>simp
 have D:t.args0.length<=9223372036854775807:=by have:=f.1;unfold maxLen at this;omega
 clear x f u g d a;generalize t.k0=y at *;generalize t.p0=s at *
 by_cases w:y=2
 .subst w
  by_cases C:s<40
  .go_enter func67,ntmps67;go_wp2_with fail;refine (pK _ _).mono ?_;rintro e A ⟨rfl,rfl⟩;go_wp2_with fail;generalize (W.alloc _).alloc _=B at *;obtain⟨j,k,l,m,n,o,p,q,r⟩:=nL c;exact zv (v:=.tuple #[Af 0 0 none 0 0 none 0 0 0 0 0 ⟨#[]⟩ none 0 0,.bool false]) (by simp[results,results67,go_sem,j,k,l,m,n,o,p,q,r,Af]) rfl ⟨b,.inl ⟨rfl,rfl⟩⟩
  .have J:((t.args0.length:Int) != ((bR s).length:Int))=true:=by simp;omega
   have L:¬(t.args0.length:Int)=((bR s).length:Int):=od
   have M:¬t.args0.length=(bR s).length:=od
   clear h;go_enter func67,ntmps67;go_wp2_with fail;refine (pK _ _).mono ?_;rintro e A ⟨rfl,rfl⟩;go_wp2_with fail;generalize (W.alloc _).alloc _=B at *;obtain⟨j,k,l,m,n,o,p,q,r⟩:=nL c;exact zv (v:=.tuple #[Af 0 0 none 0 0 none 0 0 0 0 0 ⟨#[]⟩ none 0 0,.bool false]) (by simp[results,results67,go_sem,j,k,l,m,n,o,p,q,r,Af]) rfl ⟨b,.inl ⟨rfl,rfl⟩⟩
 .have C:(y != 2)=true:=by simpa using w
  clear h;go_enter func67,ntmps67;go_wp2_with fail;refine (pK _ _).mono ?_;rintro e A ⟨rfl,rfl⟩;go_wp2_with fail;generalize (W.alloc _).alloc _=B at *;obtain⟨j,k,l,m,n,o,p,q,r⟩:=nL c;exact zv (v:=.tuple #[Af 0 0 none 0 0 none 0 0 0 0 0 ⟨#[]⟩ none 0 0,.bool false]) (by simp[results,results67,go_sem,j,k,l,m,n,o,p,q,r,Af]) rfl ⟨b,.inl ⟨rfl,rfl⟩⟩
def Oc{W:World}{t:Tr}{b:Value}(a:bI K W t b):Calls prog 67 #[b] W (EE K (iY t) W):=by
 unfold iY
 by_cases h:t.k0=2/\40<=t.p0/\t.args0.length=(bR t.p0).length
 .rw[if_pos h];exact Ke a h.1 h.2.1 h.2.2
 .rw[if_neg h];exact Rn a h
