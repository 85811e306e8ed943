import Derived.Deep.RegionWith
import Derived.Test.YtgfdimkbfnpepaaGreatKsZah
namespace Go.Proofs.YtgfdimkbfnpepaaGreat
set_option linter.all false
open Go.Proofs.Tryz
set_option maxRecDepth 100000
set_option maxHeartbeats 4000000
open Go.ChangeShapes Go.WideShapes Go.ChangeAt Go.RowKit
mutual
def encTr:Tr->List UInt8
 | .nd k n p s args=>k.toNat.toUInt8::(if k=0 then pE n else if k=1 then pE s.size++s.data.toList else if k=2 then p.toNat.toUInt8::(pE args.length++encTrs args)else pE args.length++encTrs args)
def encTrs:List Tr->List UInt8
 | []=>[]
 | t::ts=>encTr t++encTrs ts
end
def vV(a b:List Tr):encTrs (a++b)=encTrs a++encTrs b:=by
 induction a with
 | nil=>simp[encTrs]
 | cons t d c=>simp[encTrs,c]
def yP(l:List Tr)(i:Nat)(h:i<l.length):encTrs (l.take (i+1))=encTrs (l.take i)++encTr l[i]:=by rw[ur h,vV];simp[encTrs]
def Ab(l:List Tr)(i:Nat):(encTrs (l.take i)).length<=(encTrs l).length:=by have h:=vV (l.take i) (l.drop i);rw[qc6]at h;rw[h];simp
def nJ (B:Nat) (w:World) (vb:Value) (l:List UInt8) (e:Ending) (w':World):Prop:=∃v',e =.returned v'/\om B w' v' l/\Gr w vb w' v'
def VU (B:Nat) (w0:World) (v:Value) (t:Tr):Prop:=∀(xs:List UInt8) (vb:Value) (w2:World),Below B w0 w2->om B w2 vb xs->xs.length+(encTr t).length<=1000000 ->
 Calls prog 214 #[vb,v] w2 (nJ B w2 vb (xs++encTr t))
def BZ{B:Nat}{w0:World}{args:List Tr}{a:Option Addr}{c:Nat}(V:Nat->Value)(D:B<=w0.heap.size)(L:∀i,i<args.length->ky (· < B) w0 a i (V i))(K:∀i (h:i<args.length),VU B w0 (V i) args[i])
 (xs:List UInt8) (vb:Value) (w2:World) (f:Below B w0 w2) (hown:om B w2 vb xs) (hlen:xs.length+(pE args.length++encTrs args).length<=1000000) (hal:args.length<=1000000) :
 Calls prog 222 #[vb,.slice a args.length c] w2 (nJ B w2 vb (xs++(pE args.length++encTrs args))):=by
 obtain⟨S,HI,G⟩:=JY L K f;have l:B<=w2.heap.size:=ki D f.size;have W:=jh hown;have H:=jh (qf B args.length ⟨od,od⟩ od vb xs w2 hown l od);rw[qS]at hlen;clear L K f hown;go_enter func222,ntmps222;go_wp2_with fail;refine H.out.mono ?_;rintro e w3 ⟨v3,rfl,d,q⟩;have A:=jh d;have y:=jh q;clear d q H;go_wp2_with fail;go_loopw [0,13] (λv i wr=>∃j:Nat,j<=args.length/\i =.i j/\om B wr v (xs++pE args.length++encTrs (args.take j))/\Gr w2 vb wr v) (λ_ i _=>args.length - (intOf i).toNat)
 case atStart=>exact⟨0,kB _,rfl,by simpa[encTrs]using A.out,y.out⟩
 case round =>
  obtain⟨j,hj,rfl,n,s⟩:=hrel;have f:=s.below W.out l
  by_cases m:j<args.length
  .have X:=(S.out j m).same (Same.below (G.out.trans f));obtain⟨b,o,rfl,Y,N,P,Q,R,I,O,J,M,Z,e1,e2,e3,e4⟩:=X;have p:=yP args j m;have E:=Ab args (j+1);have u:=congrArg List.length p;rw[qS]at u;have F:B<=wr.heap.size:=ki l f.size;have x:=HI.out j m (xs++pE args.length++encTrs (args.take j)) u0 (wr.alloc (.cells #[.i N,.i P,.i Q,.string R,.slice I O J] 26))
    ((G.out.trans f).alloc F _) (xo n _) (by simp only[qS];omega)
   rw[M]at x;unfold af at x;obtain⟨U,C,z⟩:=JY x p (s.alloc (.cells #[.i N,.i P,.i Q,.string R,.slice I O J] 26));clear x p f s n M E u;go_wp2_with fail;refine U.out.mono ?_;rintro e w4 ⟨v4,rfl,w,r⟩;have k:=jh w;have g:=jh r;clear w r;go_wp2_with fail;go_roundw
   case rel=>exact⟨j+1,od,OF,by rw[C.out,<-ub];exact k.out,z.out.trans g.out⟩
   case measure=>simp[intOf];omega
  .have t:j=args.length:=by omega
   obtain⟨k,g,T⟩:=JY n s t;clear n f s t;go_wp2_with fail;go_ret;have n:=k.out;rw[T.out,qe2,ub]at n;exact⟨_,rfl,n,g.out⟩
def CG{k n p:Int}{s:ByteArray}{l:Nat}(h:Lf.fD k n p s l=0):(0<=k/\k<=3)/\(k=2->Lf.gD p=true)/\Lf.qM k n p s l=false/\(-1152921504606846976<=n/\n<=1152921504606846976)/\s.size<=200:=by
 unfold Lf.fD at h
 by_cases a:Lf.rP k=false
 .simp[a]at h
 rw[if_neg a]at h
 by_cases b:k=2/\Lf.gD p=false
 .simp[b]at h
 rw[if_neg b]at h
 by_cases c:Lf.qM k n p s l=true
 .simp[c]at h
 rw[if_neg c]at h
 by_cases d:n < -1152921504606846976\/1152921504606846976<n
 .rw[if_pos d]at h;omega
 rw[if_neg d]at h
 by_cases f:200<s.size
 .rw[if_pos f]at h;omega
 refine⟨by simpa[Lf.rP]using a,λe=>?_,by simpa using c,od,od⟩;simpa[e]using b
def zP{d:Nat}{k n p:Int}{s:ByteArray}{args:List Tr}(h:bC d (.nd k n p s args)=0):d<=24/\Lf.fD k n p s args.length=0/\bG (d+1) args=0:=by
 rw[bC]at h
 by_cases b:24<d
 .rw[if_pos b]at h;omega
 rw[if_neg b]at h
 by_cases a:Lf.fD k n p s args.length=0
 .rw[if_neg (by simpa using a)]at h;exact⟨od,a,h⟩
 .rw[if_pos a]at h;exact absurd h a
def rJ{d:Nat}{args:List Tr}(h:bG d args=0):∀t∈args,bC d t=0:=by
 induction args with
 | nil=>simp
 | cons t e c =>
  rw[bG]at h
  by_cases a:bC d t=0
  .rw[if_neg (by simpa using a)]at h;intro x b;rcases xb.1 b with rfl|b
   .exact a
   .exact c h x b
  .rw[if_pos a]at h;exact absurd h a
def BS{p:Int}(h:Lf.gD p=true):1<=p/\p<=95:=by simp[Lf.gD]at h;omega
def Nh(t:Tr):1<=(encTr t).length:=by cases t;simp[encTr]
def BB(l:List Tr):l.length<=(encTrs l).length:=by
 induction l with
 | nil=>simp
 | cons t b a=>have:=Nh t;simp[encTrs];omega
def IJ(k:Int)(a:0<=k)(b:k<=255):k=(k.toNat.toUInt8).toNat:=by rw[show k.toNat.toUInt8.toNat=k.toNat % 256 from rfl,jf1 od];omega
def nJ.mk{B:Nat}{w w':World}{b v':Value}{l a:List UInt8}(e:om B w' v' a)(c:Gr w b w' v')(d:a=l):nJ B w b l (.returned v') w':=by subst d;exact⟨v',rfl,e,c⟩
def H5{B:Nat}{w0:World}{t:Tr}{v:Value}(P:B<=w0.heap.size)(hL:bI (· < B) w0 t v):∀d,bC d t=0->VU B w0 v t:=by
 induction hL with
 | @mk k n p s args a c _ V hl hS ik iN ip S hr T =>
  intro d W y M q G g j;obtain⟨hd,Y,A⟩:=zP W;obtain⟨Z,X,hm,hN,hs⟩:=CG Y;have U:B<=q.heap.size:=ki P G.size;have C:some q.heap.size≠M.ownBlock:=λe=>by have:=(kp g _ e.symm).2;omega
  rcases (show k=0\/k=1\/k=2\/k=3 from by omega)with rfl|rfl|rfl|rfl
  .have H:encTr (.nd 0 n p s args)=(0:Int).toNat.toUInt8::pE n:=by simp[encTr]
   rw[H]at j|-;unfold af;have O:=jh (IJ 0 od od);have HO:=jh g;simp only[jn]at j;clear W Y A hm S hr T G g H Z X;generalize (0:Int).toNat.toUInt8=u at *;go_enter func214,ntmps214;go_wp2_with (first
    | (at_builtin;refine app1 B y u _ (q.alloc (.cells #[.i 0,.i n,.i p,.string s,.slice a args.length c] 26)) M rfl _ _ rfl rfl rfl ot O (xo HO _) oB od ?_;intro R N b f;obtain⟨b0,b1,b2,b3,b4⟩:=bE ((f.block (k:=q.heap.size) ot C).trans (qT _ _));have x:=f.1.size;have r:=jh b;have m:=jh f;clear b f))
   simp at x;refine (qf B n iN od R (y++[u]) N r od oB).mono ?_;rintro e w3 ⟨v3,rfl,I,l⟩;have E:=jh I;have z:=jh l;clear I l;go_wp2_with fail;go_ret;exact nJ.mk E (((Gr.refl _ _).alloc _).trans (m.trans z)) ot
  .have H:encTr (.nd 1 n p s args)=(1:Int).toNat.toUInt8::(pE s.size++s.data.toList):=by simp[encTr]
   rw[H]at j|-;unfold af;simp only[jn,qS]at j;have O:=jh (IJ 1 od od);have HO:=jh g;clear W Y A hm S hr T G g H Z X;generalize (1:Int).toNat.toUInt8=u at *;go_enter func214,ntmps214;go_wp2_with (first
    | (at_builtin;refine app1 B y u _ (q.alloc (.cells #[.i 1,.i n,.i p,.string s,.slice a args.length c] 26)) M rfl (.tmp 5) _ rfl rfl rfl ot O (xo HO _) oB od ?_;intro R N b f;obtain⟨b0,b1,b2,b3,b4⟩:=bE ((f.block (k:=q.heap.size) ot C).trans (qT _ _));have x:=f.1.size;simp at x;have r:=jh b;have m:=jh f;clear b f))
   have HN:=jh (λw'=>qf B s.size ⟨od,od⟩ od R (y++[u]) w');go_region_law (first
    | (refine Ai B (y++[u]++pE s.size) s _ v3 rfl (.tmp 25) (.tmp 27) rfl rfl rfl E ZT ZT od ?_;intro v4 w4 L o;have F:=jh L;have D:=jh o;clear L o)
    | (go_simp;go_at_call 221;refine (HN N.drew r.drew oB oB).mono ?_;rintro e w3 ⟨v3,rfl,I,l⟩;have w:=m.out.trans l.QY;obtain⟨e0,e1,e2,e3,e4⟩:=bE ((w.block (k:=q.heap.size) ot C).trans (qT _ _));have ad:=l.1.size;simp at ad;have E:=jh I;have z:=jh w;clear I l w))
   all_goals
    go_wp2_with fail;go_ret;exact nJ.mk F (((Gr.refl _ _).alloc _).trans (z.trans D)) ot
  .have H:encTr (.nd 2 n p s args)=(2:Int).toNat.toUInt8::p.toNat.toUInt8::(pE args.length++encTrs args):=by simp[encTr]
   rw[H]at j|-;unfold af;obtain⟨ae,ah⟩:=BS (X rfl);have ab:=BB args;simp only[jn,qS]at j;obtain⟨O,aa,HO,HA,HB⟩:=we (IJ 2 od od) (IJ p od od) g (λy M q G ho hl=>BZ (c:=c) V P S (λi h=>T i h (d+1) (rJ A _ (zj h))) y M q G ho hl od) G;clear W Y A hm S hr T G g H Z X;generalize (2:Int).toNat.toUInt8=u at *;generalize p.toNat.toUInt8=u2 at *;go_enter func214,ntmps214;go_wp2_with (first
    | (at_builtin;refine app1 B y u _ (q.alloc (.cells #[.i 2,.i n,.i p,.string s,.slice a args.length c] 26)) M rfl (.tmp 5) _ rfl rfl rfl ot O (xo HO _) oB od ?_;intro R N b f;obtain⟨b0,b1,b2,b3,b4⟩:=bE ((f.block (k:=q.heap.size) ot C).trans (qT _ _));have x:=f.1.size;simp at x;have r:=jh b;have m:=jh f;clear b f)
    | (at_builtin;refine app1 B (y++[u]) u2 _ N R rfl (.tmp 31) _ rfl rfl rfl ot aa r od oB ?_;intro v3 w3 K l;have w:=m.out.trans l;obtain⟨e0,e1,e2,e3,e4⟩:=bE ((w.block (k:=q.heap.size) ot C).trans (qT _ _));have E:=jh K;have z:=jh w;clear K l w))
   have Q:Below B w0 w3:=(HB.out.alloc U _).trans (z.below (xo HO _) oB);refine (HA (y++[u]++[u2]) v3 w3 Q E ZT).mono ?_;rintro e w4 ⟨v4,rfl,J,o⟩;have F:=jh J;have D:=jh o;clear J o;go_wp2_with fail;go_ret;exact nJ.mk F (((Gr.refl _ _).alloc _).trans (z.trans D)) ot
  .have H:encTr (.nd 3 n p s args)=(3:Int).toNat.toUInt8::(pE args.length++encTrs args):=by simp[encTr]
   rw[H]at j|-;unfold af;have ab:=BB args;simp only[jn,qS]at j;obtain⟨O,HO,HA,HB⟩:=JT (IJ 3 od od) g (λy M q G ho hl=>BZ (c:=c) V P S (λi h=>T i h (d+1) (rJ A _ (zj h))) y M q G ho hl od) G;clear W Y A hm S hr T G g H Z X;generalize (3:Int).toNat.toUInt8=u at *;go_enter func214,ntmps214;go_wp2_with (first
    | (at_builtin;refine app1 B y u _ (q.alloc (.cells #[.i 3,.i n,.i p,.string s,.slice a args.length c] 26)) M rfl (.tmp 5) _ rfl rfl rfl ot O (xo HO _) oB od ?_;intro R N b f;obtain⟨b0,b1,b2,b3,b4⟩:=bE ((f.block (k:=q.heap.size) ot C).trans (qT _ _));have x:=f.1.size;simp at x;have r:=jh b;have m:=jh f;clear b f))
   have Q:Below B w0 N:=(HB.out.alloc U _).trans (m.below (xo HO _) oB);refine (HA (y++[u]) R N Q r ZT).mono ?_;rintro e w4 ⟨v4,rfl,J,o⟩;have F:=jh J;have D:=jh o;clear J o;go_wp2_with fail;go_ret;exact nJ.mk F (((Gr.refl _ _).alloc _).trans (m.trans D)) ot
def Rc{B:Nat}{w:World}{v:Value}{l:List UInt8}(h:om B w v l):(convert 222 9 v).run prog w =.ok (.string ⟨l.toArray⟩) w:=by
 have b:=h;unfold om at b;rcases b.2 with⟨rfl,e⟩|⟨g,a,d,rfl,f,o,n,i,k,c⟩
 .have : l=[]:=ju e;subst this;exact run_convert_bytes_nil w 222 5 underlying222 underlying5 0 0 9 underlying9
 .refine run_convert_bytes_back w 222 9 5 ⟨g,0,none⟩ a l underlying222 underlying5 underlying9 λj m=>?_;exact yy b (g:=g) rfl j _ (by simp[cs,qt m])
mutual
def tX(d:Nat):∀t,bC d t=0->t.size<=1000000->(encTr t).length<=215*t.size
 | .nd k n p s a,h,l=>by
  obtain⟨u,j,b⟩:=zP h;obtain⟨v,x,w,r,y⟩:=CG j;rw[Tr.size]at l;have z:=xy (d+1) a b od;have i:=cB a;have m:=xx n ⟨od,od⟩;have o:=xx s.size ⟨od,od⟩;have q:=xx a.length ⟨od,od⟩;have c:s.data.toList.length=s.size:=ot
  rw[encTr,Tr.size]
  by_cases e:k=0
  .rw[if_pos e];simp;omega
  rw[if_neg e]
  by_cases f:k=1
  .rw[if_pos f];simp only[jn,qS,c];omega
  rw[if_neg f]
  by_cases g:k=2
  .rw[if_pos g];simp only[jn,qS];omega
  .rw[if_neg g];simp only[jn,qS];omega
def xy(d:Nat):∀ts,bG d ts=0->sizes ts<=1000000->(encTrs ts).length<=215*sizes ts
 | [],_,_=>by simp[encTrs]
 | t::ts,h,c=>by
  rw[sizes]at c;have e:=tX d t (rJ h t ot) od;have b:bG d ts=0:=by
   rw[bG]at h
   by_cases a:bC d t=0
   .rwa [if_neg (by simpa using a)]at h
   .rw[if_pos a]at h;exact absurd h a
  have f:=xy d ts b od;rw[encTrs,sizes,qS];omega
end
def iV{t:Tr}(h:dS t=0):bC 1 t=0/\t.size<=300:=by
 unfold dS at h
 by_cases a:bC 1 t=0
 .rw[if_neg (by simpa using a)]at h
  by_cases b:300<t.size
  .rw[if_pos b]at h;omega
  .exact⟨a,od⟩
 .rw[if_pos a]at h;exact absurd h a
def Ju{w:World}{t:Tr}{v:Value}(z:bI (· < w.heap.size) w t v)(B:dS t=0) :
 Calls prog 203 #[v] w λe w'=>e =.returned (.tuple #[.string ⟨(encTr t).toArray⟩,.i 0])/\w.grownBy w' none:=by
 obtain⟨y,H⟩:=iV B;have q:=tX 1 t y od;have u:∃k n p s a l c,v=af k n p s a l c:=by cases z;exact⟨_,_,_,_,_,_,_,rfl⟩
 obtain⟨k,n,p,s,a,l,c,u⟩:=u;have d:∀o,bI (· < (w.alloc o).heap.size) (w.alloc o) t v:=λo=>(z.same (w':=w.alloc o) (λb _ f _=>jd7 _ _ _ f)).ae (λb _ f=>by simp;have : b<w.heap.size:=f;omega);have j:=Bj (d (.cells #[.i k,.i n,.i p,.string s,.slice a l c] 26)) od;have r:∀w',(w.alloc (.cells #[.i k,.i n,.i p,.string s,.slice a l c] 26)).grownBy w' none->Calls prog 214 #[.n0,v] w' (nJ w'.heap.size w' (.n0) (encTr t)):=by intro w' C;have I:Same (· < (w.alloc (.cells #[.i k,.i n,.i p,.string s,.slice a l c] 26)).heap.size) (w.alloc (.cells #[.i k,.i n,.i p,.string s,.slice a l c] 26)) w':=λb o f _=>Lf.Qr C b o f;have A:=((d _).same I).ae (ok':=(· < w'.heap.size)) (λb f _=>f);exact H5 (qv _) A 1 y [] (.n0) w' (Below.refl _ _) (qa3 _ _ _ _) oB
 rw[B]at j;rw[u]at j r|-;unfold af at j r|-;have F:=jh j;have G:=jh r;clear j r z d u B y H q;generalize encTr t=O at *;go_enter func203,ntmps203;go_wp2_with fail;refine F.mono ?_;rintro e Q ⟨rfl,g⟩;obtain⟨J,K,L,M,N⟩:=bE ((g.block w.heap.size ot ot).trans (qT _ _));have h:=jh g;clear g;go_wp2_with fail;refine (G _ h).mono ?_;rintro e R ⟨P,rfl,D,m⟩;have E:=Rc D;have x:=jh m.1;clear D m;go_wp2_with fail;go_ret2;refine⟨rfl,aJ (aK _) (aJ h ?_)⟩;exact x
def Ni{w:World}{t:Tr}{v:Value}(m:bI (· < w.heap.size) w t v)(y:t.size<=4611686018427387904 - 1)(u:dS t≠0) :
 Calls prog 203 #[v] w λe w'=>e =.returned (.tuple #[.string ⟨#[]⟩,.i (dS t)])/\w.grownBy w' none:=by
 have h:∃k n p s a l c,v=af k n p s a l c:=by cases m;exact⟨_,_,_,_,_,_,_,rfl⟩
 obtain⟨k,n,p,s,a,l,c,h⟩:=h;have d:∀o,bI (· < (w.alloc o).heap.size) (w.alloc o) t v:=λo=>(m.same (w':=w.alloc o) (λb _ q _=>jd7 _ _ _ q)).ae (λb _ q=>by simp;have : b<w.heap.size:=q;omega);have g:=Bj (d (.cells #[.i k,.i n,.i p,.string s,.slice a l c] 26)) od;rw[h]at g|-;unfold af at g|-;have r:=jh g;clear g m d h;generalize dS t=x at *;go_enter func203,ntmps203;go_wp2_with fail;refine r.mono ?_;rintro e z ⟨rfl,f⟩;have j:=jh f;clear f;go_wp2_with fail;go_ret2;exact⟨rfl,aJ (aK _) j⟩
mutual
def readT_size:∀(t:Tr) (T:Ty) (x:Va),readT t T=some x->x.size<=t.size
 | .nd k n p s d,T,x=>by
  intro h;have g:∀(a b:Int) (c:ByteArray) (e:List Va),(fM a b c e).size=vsizes e+1:=λa b c e=>by simp[fM,Va.size,tysizes,sizes]
  have i:vsizes []=0:=rfl;rw[Tr.size];rw[readT]at h;split at h
  .split at h
   .simp only[qk]at h;subst h;rw[g,i];omega
   .cases h
  .split at h
   .split at h
    .simp only[qk]at h;subst h;rw[g,i];omega
    .cases h
   .split at h
    .split at h
     .simp only[km]at h;obtain⟨e,f,rfl⟩:=h;have:=readTs_size d _ e f;rw[g];omega
     .cases h
    .split at h
     .split at h
      .simp only[km]at h;obtain⟨e,f,rfl⟩:=h;have:=readEs_size d _ e f;rw[g];omega
      .cases h
     .split at h
      .cases h
      .simp only[km]at h;obtain⟨e,f,rfl⟩:=h;have:=readTs_size d _ e f;rw[g];omega
def readTs_size:∀(l:List Tr) (ts:List Ty) (xs:List Va),readTs l ts=some xs->vsizes xs<=sizes l
 | [],[],xs=>by intro h;simp[readTs]at h;subst h;simp[vsizes,sizes]
 | [],_::_,xs=>by intro h;simp[readTs]at h
 | _::_,[],xs=>by intro h;simp[readTs]at h
 | t::l,T::ts,xs=>by
  intro h;rw[readTs]at h
  cases a:readT t T with
  | none=>rw[a]at h;cases h
  | some x =>
   rw[a]at h;simp only[km]at h;obtain⟨c,b,rfl⟩:=h;have d:=readT_size t T x a;have e:=readTs_size l ts c b;rw[vsizes,sizes];omega
def readEs_size:∀(l:List Tr) (ts:List Ty) (xs:List Va),readEs l ts=some xs->vsizes xs<=sizes l
 | [],ts,xs=>by intro h;simp[readEs]at h;subst h;simp[vsizes,sizes]
 | .nd k n p s a::l,ts,xs=>by
  intro h;rw[readEs]at h
  cases b:readTs a ts with
  | none=>rw[b]at h;cases h
  | some c =>
   rw[b]at h;simp only at h;split at h
   .simp only[km]at h;obtain⟨f,d,rfl⟩:=h;have g:=readTs_size a ts c b;have i:=readEs_size l ts f d;have e:(fM 11 0 ⟨#[]⟩ c).size=vsizes c+1:=by simp[fM,Va.size,tysizes,sizes]
    rw[vsizes,sizes,e,Tr.size];omega
   .cases h
end
def jf (T:Ty) (t:Tr):Option Va:=if bn T=true/\dS t=0 then (match readT t T with
 | none=>none
 | some x=>if pY T x=true then some x else none)else none
section
open Pe
mutual
def first_okN:∀(t:Tr) (d:Nat),bC d t=0->okN t
 | .nd k n p s c,d,h=>by
  simp only[bC]at h;split at h
  .cases h
  .split at h
   .rename_i a;exact absurd h a
   .rename_i a;have b:Lf.fD k n p s c.length=0:=by simpa using a
    refine⟨?_,first_okNs c (d+1) h⟩;unfold Lf.fD Lf.rP Lf.gD Lf.qM at b;unfold bD maxLen
    repeat' split at b
    all_goals first
     | (cases b;done)
     | (simp_all<;>omega)
def first_okNs:∀(l:List Tr) (d:Nat),bG d l=0->okNs l
 | [],_,_=>trivial
 | t::l,d,h=>by
  simp only[bG]at h;split at h
  .rename_i a;exact absurd h a
  .rename_i a;exact⟨first_okN t d (by simpa using a),first_okNs l d h⟩
end
def vw{a b:Int}{s:ByteArray}{l:List Va}(c:bD a)(d:bD b)(e:s.size<=maxLen)(f:okVs l):okV (fM a b s l):=⟨⟨c,d,i64,e⟩,f,trivial,trivial⟩
mutual
def readT_okV:∀(t:Tr) (T:Ty) (x:Va),okN t->readT t T=some x->okV x
 | .nd k n p s a,T,x,d=>by
  intro h;have g:(⟨#[]⟩:ByteArray).size<=maxLen:=ov
  rw[readT]at h;split at h
  .rename_i c;split at h
   .simp only[qk]at h;subst h;exact vw Xs d.1.2.1 g trivial
   .cases h
  .split at h
   .split at h
    .simp only[qk]at h;subst h;exact vw i64 i64 d.1.2.2.2 trivial
    .cases h
   .split at h
    .split at h
     .simp only[km]at h;obtain⟨e,b,rfl⟩:=h;exact vw i64 i64 g (readTs_okV a _ e d.2 b)
     .cases h
    .split at h
     .split at h
      .simp only[km]at h;obtain⟨e,b,rfl⟩:=h;exact vw i64 i64 g (readEs_okV a _ e d.2 b)
      .cases h
     .split at h
      .cases h
      .rename_i m j f;simp only[km]at h;obtain⟨e,b,rfl⟩:=h;unfold dL at f;have i:(0<=T.t/\T.t<=20)/\(m=0\/m=1):=by
        repeat' split at f
        all_goals first|(cases f;done)|(simp only[qk,zd]at f;omega)
       exact vw Xs Xs g (readTs_okV a _ e d.2 b)
def readTs_okV:∀(l:List Tr) (ts:List Ty) (xs:List Va),okNs l->readTs l ts=some xs->okVs xs
 | [],[],xs,_=>by intro h;simp[readTs]at h;subst h;trivial
 | [],_::_,xs,_=>by intro h;simp[readTs]at h
 | _::_,[],xs,_=>by intro h;simp[readTs]at h
 | t::l,T::ts,xs,b=>by
  intro h;rw[readTs]at h
  cases a:readT t T with
  | none=>rw[a]at h;cases h
  | some x =>
   rw[a]at h;simp only[km]at h;obtain⟨d,c,rfl⟩:=h;exact⟨readT_okV t T x b.1 a,readTs_okV l ts d b.2 c⟩
def readEs_okV:∀(l:List Tr) (ts:List Ty) (xs:List Va),okNs l->readEs l ts=some xs->okVs xs
 | [],ts,xs,_=>by intro h;simp[readEs]at h;subst h;trivial
 | .nd k n p s a::l,ts,xs,c=>by
  intro h;rw[readEs]at h
  cases b:readTs a ts with
  | none=>rw[b]at h;cases h
  | some e =>
   rw[b]at h;simp only at h;split at h
   .simp only[km]at h;obtain⟨f,d,rfl⟩:=h;exact⟨vw i64 i64 ov (readTs_okV a ts e c.1.2 b),readEs_okV l ts f c.2 d⟩
   .cases h
end
def D5{T:Ty}{t:Tr}{x:Va}(h:jf T t=some x):okV x:=by
 unfold jf at h;split at h
 .rename_i c;split at h
  .cases h
  .rename_i y a;split at h
   .cases h;exact readT_okV _ _ _ (first_okN _ _ (iV c.2).1) a
   .cases h
 .cases h
def K3{t:Tr}(hk:okN t)(hz:t.size<=4611686018427387904):Hd ⟨21,[ndA t],.of (iA (dS t))⟩:=by
 refine⟨bK func21,λok w c h=>?_⟩
 match c,h with
 | [v],⟨a,_⟩ =>
  refine (Bj ((oK hk a).ae (λ_ h _=>h)) hz).mono ?_;rintro e d ⟨rfl,b⟩;exact⟨b,_,rfl,fI.v _⟩
def SV{T:Ty}(a:okT T):Hd ⟨45,[tyA T],aQ (bn T)⟩:=jM (bK func45) λok w d h=>by
 match d,h with
 | [v],⟨c,_⟩=>exact nT ((jC a c).ae λb h _=>h)
def X4{T:Ty}{x:Va}(c:okT T)(d:okV x)(hz:x.size<=20000000):Hd ⟨56,[tyA T,pF x],aQ (pY T x)⟩:=jM (bK func56) λok w e h=>by
 match e,h with
 | [u,v],⟨a,b,_⟩=>exact Lv ((jC c a).ae λ_ _ _=>trivial) ((mR d b).ae λ_ _ _=>trivial) hz w (bM _ _)
def vaZ:A1:=.agg [.d (.v (.i 0)),.d (.v (.i 0)),.d (.v (.i 0)),.d (.v (.string ⟨#[]⟩)),.d (.s 0 []),.d (.s 0 []),.d (.s 0 [])]
def anyA:A1:=.agg [.d .t,.d .t,.d .t,.d .t,.d .t,.d .t,.d .t]
def readA:Option Va->AV
 | some x=>.rz [pF x,bA true]
 | none=>.rz [anyA,bA false]
def parseA:Option Va->AV
 | some x=>.rz [pF x,iA 0]
 | none=>.rz [vaZ,iA 1]
def Tp{T:Ty}{t:Tr}(p:okT T)(y:okN t)(hz:t.size<=300)(q:j5 1 T=true):Hd ⟨152,[tyA T,ndA t],readA (readT t T)⟩:=⟨bK func152,λok w E h=>by
 match E,h with
 | [u,v],⟨g,j,_⟩ =>
  refine (read_all t.size t T _ _ w 1 (qv _) od ((oK y j).ae λ_ _ _=>trivial) ((jC p g).ae λ_ _ _=>trivial) q).mono ?_;rintro e F ⟨r,k,n,a,s,c,al,d,C,tl,D,z,B,A,f,rfl,l,m⟩;refine⟨r,_,rfl,?_⟩
  cases f with
  | true =>
   obtain⟨x,e,o⟩:=l rfl;rw[e];exact⟨[_,_],rfl,FJ (o.ae λb _ h=>.inr h),.v _,trivial⟩
  | false =>
   rw[m rfl];exact⟨[_,_],rfl,⟨[.i k,.i n,.i a,.string s,.slice c al d,.slice C tl D,.slice z B A],rfl,.t _ rfl,.t _ rfl,.t _ rfl,.t _ rfl,.t _ rfl,.t _ rfl,.t _ rfl,trivial⟩,.v _,trivial⟩⟩
def WI{T:Ty}{t:Tr}(i:okT T)(l:okN t)(hz:t.size<=4611686018427387903):Hd ⟨113,[tyA T,ndA t],parseA (jf T t)⟩:=by
 have a:=SV i;have hN:=K3 l od;unfold jf
 cases j:bn T with
 | false =>
  rw[j]at a;rw[if_neg ot];obtain⟨u,g⟩:=T;obtain⟨k,n,p,s,c⟩:=t;exact aF func113 [⟨_,a⟩]
 | true =>
  rw[j]at a
  by_cases b:dS t=0
  .rw[b]at hN;rw[if_pos ⟨rfl,b⟩];have o:=(iV b).2;have hR:=Tp i l o (dE j).1
   cases f:readT t T with
   | none =>
    rw[f]at hR;obtain⟨u,g⟩:=T;obtain⟨k,n,p,s,c⟩:=t;exact aF func113 [⟨_,a⟩,⟨_,hN⟩,⟨_,hR⟩]
   | some x =>
    rw[f]at hR;have d:=X4 (x:=x) i (readT_okV _ _ _ l f) (by have:=readT_size t T x f;omega);simp only
    cases m:pY T x with
    | false =>
     rw[m]at d;obtain⟨u,g⟩:=T;obtain⟨k,n,p,s,c⟩:=t;exact aF func113 [⟨_,a⟩,⟨_,hN⟩,⟨_,hR⟩,⟨_,d⟩]
    | true =>
     rw[m]at d;obtain⟨u,g⟩:=T;obtain⟨k,n,p,s,c⟩:=t;exact aF func113 [⟨_,a⟩,⟨_,hN⟩,⟨_,hR⟩,⟨_,d⟩]
  .rw[if_neg (λh=>b h.2)];generalize dS t=e at *;obtain⟨u,g⟩:=T;obtain⟨k,n,p,s,c⟩:=t;exact runT func113 [(14,bA true)] [⟨_,a⟩,⟨_,hN⟩] (ob:=[jJ (!decide (e=0)) true]) (al (eT (by simpa using b)) al0)
end
inductive iF where
 | no (e:Int)
 | ok (f:Bool) (ts:List Ty)
def sFq:List Ty->List Int->Bool
 | _,[]=>true
 | [],_::_=>false
 | T::s,k::ks=>(decide (k=0)||decide (T.t=k))&&sFq s ks
structure Ins where
 p:Int
 n:Int
 types:List Ty
 rows:List (List Tr)
 data:Tr
def tr0:Tr:=.nd 0 0 0 ⟨#[]⟩ []
def bR (p:Int):List UInt8 :=
 if p=41\/p=43\/p=44 then [110]
 else if p=45 then [116,118]
 else if p=50\/p=51\/p=54\/p=56\/p=82\/p=88 then [116]
 else if p=61 then [116,117]
 else if p=52\/p=55\/p=58\/p=64 then [99,100]
 else if p=60\/p=65\/p=68 then [99]
 else if p=66 then [116,117,99]
 else []
def iy (i:Ins) (f:UInt8) (t:Tr):Option Ins :=
 if f=110 then (if t.k0=0/\0<=t.n0/\t.n0<=40 then some { i with n:=t.n0 } else none)
 else if f=116\/f=117 then (if fu t=true then some { i with types:=i.types++[kreadT t] } else none)
 else if f=99\/f=100 then (if t.k0=3 then some { i with rows:=i.rows++[t.args0] } else none)
 else some { i with data:=t }
def takesF:Ins->List UInt8->List Tr->Option Ins
 | i,f::fs,t::l=>match iy i f t with
  | none=>none
  | some j=>takesF j fs l
 | i,[],_=>some i
 | i,_::_,[]=>some i
def iY (t:Tr):Option Ins :=
 if t.k0=2/\40<=t.p0/\t.args0.length=(bR t.p0).length then takesF ⟨t.p0,0,[],[],tr0⟩ (bR t.p0) t.args0 else none
mutual
def mintsT:Tr->Bool
 | .nd k _ p _ args=>(decide (k=2/\p=84))||mintsTs args
def mintsTs:List Tr->Bool
 | []=>false
 | t::l=>mintsT t||mintsTs l
end
def fQ (s top:List Ty):iF:=.ok false (top++s)
def meetF:iF->iF->iF
 | .no e,_=>.no e
 | .ok _ _,.no e=>.no e
 | .ok f a,.ok g b=>if f=true then .ok g b else if g=true\/sameTs a b=true then .ok f a else .no 5
def rowAt (i:Ins) (k:Nat):List Tr:=(i.rows[k]?).getD []
def iC (row:List Tr->List Ty->iF) (i:Ins) (s x y:List Ty):iF:=meetF (row (rowAt i 0) (x++s)) (row (rowAt i 1) (y++s))
def dM (row:List Tr->List Ty->iF) (i:Ins) (x y z:List Ty):iF:=match meetF (row (rowAt i 0) x) (fQ y [])with
 | .no e=>.no e
 | .ok _ _=>fQ z []
def l7 (row:List Tr->List Ty->iF) (i:Ins) (top:Ty) (s:List Ty):iF:=match row (rowAt i 0) s with
 | .no e=>.no e
 | .ok f ts=>if f=true then .no 1 else fQ ts [top]
def dG (i:Ins) (s:List Ty):iF :=
 if i.p=40/\sFq s [0]=true then fQ (s.drop 1) []
 else if i.p=41/\1<=i.n/\i.n<=s.length/\A7 (bB s (i.n.toNat - 1))=true then fQ s [bB s (i.n.toNat - 1)]
 else if i.p=42/\sFq s [0,0]=true then fQ (s.drop 2) [bB s 1,bB s 0]
 else if i.p=43/\i.n<s.length then fQ (s.take i.n.toNat++s.drop (i.n.toNat+1)) [bB s i.n.toNat]
 else if i.p=44/\i.n<s.length then fQ (s.take 1++s.drop (i.n.toNat+1)) ((s.drop 1).take i.n.toNat)
 else .no 5
def bO (i:Ins) (s:List Ty):iF :=
 if i.p=46/\sFq s [0,0]=true then fQ (s.drop 2) [.nd 11 [bB s 0,bB s 1]]
 else if i.p=47/\sFq s [11]=true then fQ (s.drop 1) (bB s 0).args
 else if i.p=48/\sFq s [11]=true then fQ (s.drop 1) [bB (bB s 0).args 0]
 else if i.p=49/\sFq s [11]=true then fQ (s.drop 1) [bB (bB s 0).args 1]
 else if i.p=50/\sFq s [0]=true then fQ (s.drop 1) [.nd 12 [bB s 0,bB i.types 0]]
 else if i.p=51/\sFq s [0]=true then fQ (s.drop 1) [.nd 12 [bB i.types 0,bB s 0]]
 else if i.p=53/\sFq s [0]=true then fQ (s.drop 1) [.nd 9 [bB s 0]]
 else if i.p=54 then fQ s [.nd 9 [bB i.types 0]]
 else .no 5
def aP (i:Ins) (s:List Ty):iF :=
 if i.p=56 then fQ s [.nd 10 [bB i.types 0]]
 else if i.p=57/\sFq s [0,10]=true/\sameT (bB s 0) (bB (bB s 1).args 0)=true then fQ (s.drop 1) []
 else if i.p=59/\(sFq s [6]=true\/sFq s [10]=true\/sFq s [13]=true)then fQ (s.drop 1) [.nd 4 []]
 else if i.p=61/\oF (bB i.types 0)=true then fQ s [.nd 13 i.types]
 else if i.p=62/\sFq s [0,13]=true/\sameT (bB s 0) (bB (bB s 1).args 0)=true/\A7 (bB (bB s 1).args 1)=true then fQ (s.drop 2) [.nd 9 [bB (bB s 1).args 1]]
 else if i.p=63/\sFq s [0,9,13]=true/\sameT (bB s 0) (bB (bB s 2).args 0)=true/\sameT (bB (bB s 1).args 0) (bB (bB s 2).args 1)=true then fQ (s.drop 2) []
 else .no 5
def eG (row:List Tr->List Ty->iF) (i:Ins) (s:List Ty):iF :=
 if i.p=52/\sFq s [12]=true then iC row i (s.drop 1) ((bB s 0).args.take 1) ((bB s 0).args.drop 1)
 else if i.p=55/\sFq s [9]=true then iC row i (s.drop 1) [] (bB s 0).args
 else if i.p=58/\sFq s [10]=true then iC row i (s.drop 1) [bB (bB s 0).args 0,bB s 0] []
 else if i.p=64/\sFq s [2]=true then iC row i (s.drop 1) [] []
 else .no 5
def bP (row:List Tr->List Ty->iF) (i:Ins) (s:List Ty):iF :=
 if i.p=60/\sFq s [10]=true then dM row i ((bB s 0).args++s.drop 1) (s.drop 1) (s.drop 1)
 else if i.p=60/\sFq s [13]=true then dM row i ([.nd 11 (bB s 0).args]++s.drop 1) (s.drop 1) (s.drop 1)
 else if i.p=65/\sFq s [2]=true then dM row i (s.drop 1) s (s.drop 1)
 else if i.p=66/\mintsTs (rowAt i 0)=false then dM row i (i.types.take 1) (i.types.drop 1) ([.nd 14 i.types]++s)
 else if i.p=67/\sFq s [0,14]=true/\sameT (bB s 0) (bB (bB s 1).args 0)=true then fQ (s.drop 2) [bB (bB s 1).args 1]
 else if i.p=68/\sFq s [0]=true then l7 row i (bB s 0) (s.drop 1)
 else .no 5
def zC (t:Int):Bool:=decide (t=3\/t=4)
def Jt (q r:Ty):Ty:=.nd 9 [.nd 11 [q,r]]
def IP (p a b:Int):Option Ty :=
 if p=69/\a=5/\b=5 then some (.nd 5 [])
 else if p=70/\a=5/\b=5 then some (.nd 9 [.nd 5 []])
 else if p=71/\(a=5/\b=4\/a=4/\b=5)then some (.nd 5 [])
 else if p=72/\a=5/\b=5 then some (Jt (.nd 4 []) (.nd 5 []))
 else if p=72/\a=5/\b=4 then some (Jt (.nd 5 []) (.nd 5 []))
 else if zC a=false\/zC b=false then none
 else if p=72/\a=4/\b=4 then some (Jt (.nd 4 []) (.nd 4 []))
 else if p=72 then some (Jt (.nd 3 []) (.nd 4 []))
 else if p≠70/\a=4/\b=4 then some (.nd 4 [])
 else some (.nd 3 [])
def bJ (i:Ins) (s:List Ty):iF :=
 if i.p=93/\sFq s [3]=true then fQ (s.drop 1) [.nd 4 []]
 else if i.p=94/\sFq s [3]=true then fQ (s.drop 1) [.nd 9 [.nd 4 []]]
 else if i.p=95/\sFq s [4]=true then fQ (s.drop 1) [.nd 3 []]
 else if (i.p=69\/i.p=70\/i.p=71\/i.p=72)/\sFq s [0,0]=true then (match IP i.p (bB s 0).t (bB s 1).t with
  | some T=>fQ (s.drop 2) [T]
  | none=>.no 5)
 else .no 5
def dI (i:Ins) (s:List Ty):iF :=
 if i.p=73/\sFq s [0,0]=true/\sameT (bB s 0) (bB s 1)=true/\oF (bB s 0)=true then fQ (s.drop 2) [.nd 3 []]
 else if (i.p=74\/i.p=75\/i.p=76)/\sFq s [3]=true then fQ (s.drop 1) [.nd 2 []]
 else if i.p=77/\sFq s [2]=true then fQ (s.drop 1) [.nd 2 []]
 else if (i.p=78\/i.p=79)/\sFq s [2,2]=true then fQ (s.drop 2) [.nd 2 []]
 else .no 5
def cZ (i:Ins) (s:List Ty):iF :=
 if i.p=45/\eB (bB i.types 0)=true/\(jf (bB i.types 0) i.data).isSome=true then fQ s [bB i.types 0]
 else if i.p=80/\sFq s [6,6]=true then fQ (s.drop 2) [.nd 6 []]
 else if i.p=81/\sFq s [0]=true/\eB (bB s 0)=true then fQ (s.drop 1) [.nd 6 []]
 else if i.p=82/\sFq s [6]=true/\eB (bB i.types 0)=true then fQ (s.drop 1) [.nd 9 [bB i.types 0]]
 else if i.p=83/\sFq s [0]=true/\eB (bB s 0)=true then .ok true []
 else .no 5
def bF (i:Ins) (s:List Ty):iF :=
 if i.p=84/\sFq s [0,4]=true/\oF (bB s 0)=true then fQ (s.drop 2) [.nd 9 [.nd 15 [bB s 0]]]
 else if i.p=85/\sFq s [15]=true then fQ s [.nd 11 [.nd 7 [],.nd 11 [bB (bB s 0).args 0,.nd 4 []]]]
 else if i.p=86/\sFq s [15,11]=true/\sFq (bB s 1).args [4,4]=true then fQ (s.drop 2) [.nd 9 [.nd 11 [bB s 0,bB s 0]]]
 else if i.p=87/\sFq s [11]=true/\sFq (bB s 0).args [15,15]=true/\sameT (bB (bB s 0).args 0) (bB (bB s 0).args 1)=true then fQ (s.drop 1) [.nd 9 [bB (bB s 0).args 0]]
 else .no 5
def dO (i:Ins) (s:List Ty):iF :=
 if i.p=88/\sFq s [0,5,7]=true/\sameT (bB s 0) (bB i.types 0)=true/\storeT (bB s 0)=true then fQ (s.drop 3) [.nd 8 []]
 else if i.p=89\/i.p=90 then fQ s [.nd 7 []]
 else if i.p=91\/i.p=92 then fQ s [.nd 5 []]
 else .no 5
def vP (row:List Tr->List Ty->iF) (i:Ins) (s:List Ty):iF :=
 if i.p=40\/i.p=41\/i.p=42\/i.p=43\/i.p=44 then dG i s
 else if i.p=46\/i.p=47\/i.p=48\/i.p=49\/i.p=50\/i.p=51\/i.p=53\/i.p=54 then bO i s
 else if i.p=56\/i.p=57\/i.p=59\/i.p=61\/i.p=62\/i.p=63 then aP i s
 else if i.p=52\/i.p=55\/i.p=58\/i.p=64 then eG row i s
 else if i.p=60\/i.p=65\/i.p=66\/i.p=67\/i.p=68 then bP row i s
 else if i.p=69\/i.p=70\/i.p=71\/i.p=72\/i.p=93\/i.p=94\/i.p=95 then bJ i s
 else if i.p=73\/i.p=74\/i.p=75\/i.p=76\/i.p=77\/i.p=78\/i.p=79 then dI i s
 else if i.p=45\/i.p=80\/i.p=81\/i.p=82\/i.p=83 then cZ i s
 else if i.p=84\/i.p=85\/i.p=86\/i.p=87 then bF i s
 else dO i s
def keptF:iF->iF
 | .no e=>.no e
 | .ok f ts=>if 40<ts.length then .no 7 else if ts.all bn=true then .ok f ts else .no 4
def iG (st:Tr->List Ty->iF):List Tr->Bool->List Ty->iF
 | [],f,s=>.ok f s
 | t::l,f,s=>if f=true then .no 1 else match keptF (st t s)with
  | .no e=>.no e
  | .ok g s'=>iG st l g s'
def stepF:Nat->Tr->List Ty->iF
 | 0,_,_=>.no 1
 | N+1,t,s=>if t.k0=3 then iG (stepF N) t.args0 false s else match iY t with
  | none=>.no 1
  | some i=>vP (λl s=>iG (stepF N) l false s) i s
def codeF (n:Tr) (s:List Ty):iF :=
 if dS n≠0 then .no (dS n)else if n.k0≠3 then .no 1 else if 40<s.length then .no 7 else if s.all bn=true then iG (stepF 300) n.args0 false s else .no 5
def nP{r:iF}{f:Bool}{ts:List Ty}(h:keptF r =.ok f ts):r =.ok f ts/\ts.length<=40/\ts.all bn=true:=by
 cases r with
 | no e=>simp[keptF]at h
 | ok g c =>
  simp only[keptF]at h
  by_cases a:40<c.length
  .simp[a]at h
  .by_cases b:c.all bn=true
   .rw[if_neg a,if_pos b]at h;injection h with d i;subst d;subst i;exact⟨rfl,od,b⟩
   .rw[if_neg a,if_neg b]at h;cases h
def kT (r:iF):Prop:=∀ts,r =.ok true ts->ts=[]
def Ec{st:Tr->List Ty->iF}(a:∀t s,kT (st t s)):∀(l:List Tr) (f:Bool) (s:List Ty) {g:Bool}{ts:List Ty},s.length<=40->s.all bn=true->(f=true->s=[])->iG st l f s =.ok g ts->ts.length<=40/\ts.all bn=true/\(g=true->ts=[])
 | [],f,s,g,ts,d,i,j,h=>by simp only[iG,iF.ok.injEq]at h;obtain⟨rfl,rfl⟩:=h;exact⟨d,i,j⟩
 | t::l,f,s,g,ts,d,i,j,h=>by
  simp only[iG]at h
  by_cases k:f=true
  .simp[k]at h
  .simp only[k]at h
   cases c:keptF (st t s)with
   | no e=>simp[c]at h
   | ok n m =>
    simp only[c]at h;obtain⟨e,o,p⟩:=nP c;exact Ec a l n m o p (λb=>a t s m (by rw[e,b])) (by simpa using h)
def vg(s top:List Ty):kT (fQ s top):=λa h=>by simp[fQ]at h
def jy(e:Int):kT (.no e):=λa h=>by simp at h
def noTys_fail:kT (.ok true []):=λa h=>by simp at h;exact h
def NQ{c:Prop}[Decidable c]{a b:iF}(d:kT a)(e:kT b):kT (if c then a else b):=by
 by_cases h:c
 .rw[if_pos h];exact d
 .rw[if_neg h];exact e
def NR{o:Option Ty}{g:Ty->iF}(a:∀T,kT (g T)){e:Int} : kT (match o with
 | some T=>g T
 | none=>.no e):=by
 cases o with
 | none=>exact jy e
 | some T=>exact a T
def JU{a b:iF}(c:kT a)(d:kT b):kT (meetF a b):=by
 cases a with
 | no e=>exact jy e
 | ok f x =>
  cases b with
  | no e=>exact jy e
  | ok g y =>
   simp only[meetF];split
   .exact d
   .split
    .exact c
    .exact jy 5
def ze{st:Tr->List Ty->iF}(a:∀t s,kT (st t s)):∀(l:List Tr) (f:Bool) (s:List Ty),(f=true->s=[])->kT (iG st l f s)
 | [],f,s,h=>λi e=>by simp only[iG,iF.ok.injEq]at e;obtain⟨rfl,rfl⟩:=e;exact h rfl
 | t::l,f,s,h=>by
  simp only[iG];split
  .exact jy 1
  .cases g:keptF (st t s)with
   | no e=>exact jy e
   | ok d c=>exact ze a l d c (λb=>a t s c (by rw[(nP g).1,b]))
def NP{row:List Tr->List Ty->iF}(b:∀l s,kT (row l s))(i:Ins)(s:List Ty):kT (vP row i s):=by
 have d:∀s x y,kT (iC row i s x y):=λs x y=>JU (b _ _) (b _ _);have e:∀x y z,kT (dM row i x y z):=λx y z=>by
  unfold dM;split
  .exact jy _
  .exact vg _ _
 have c:∀a s,kT (l7 row i a s):=λa s=>by
  unfold l7;split
  .exact jy _
  .split
   .exact jy 1
   .exact vg _ _
 unfold vP dG bO aP eG bP bJ dI cZ bF dO
 repeat' apply NQ
 all_goals first|exact vg _ _|exact jy _|exact noTys_fail|exact d _ _ _|exact e _ _ _|exact c _ _|exact NR (λT=>vg _ _)
def noTys_step:∀(N:Nat) (t:Tr) (s:List Ty),kT (stepF N t s)
 | 0,t,s=>jy 1
 | N+1,t,s=>by
  rw[stepF];split
  .exact ze (noTys_step N) _ _ _ ot
  .split
   .exact jy 1
   .exact NP (λl s=>ze (noTys_step N) _ _ _ ot) _ _
def slq:∀{s:List Ty}{ks:List Int},sFq s ks=true->ks.length<=s.length
 | _,[],_=>ot
 | [],_::_,h=>by simp[sFq]at h
 | T::s,k::ks,h=>by simp only[sFq,qu]at h;have:=slq h.2;simp;omega
def WL (r:iF) (W:World) (e:Ending) (w':World):Prop :=
 W.grownBy w' none/\((∃er,r =.no er/\er≠0/\e =.returned (.tuple #[.agg #[.n0,.bool false],.i er]))\/∃f ts a l c,r =.ok f ts/\e =.returned (.tuple #[.agg #[.slice a l c,.bool f],.i 0])/\jo w' ts (.slice a l c))
def WL.of{r:iF}{W a:World}{e:Ending}{w':World}(h:WL r a e w')(b:W.grownBy a none):WL r W e w':=⟨aJ b h.1,h.2⟩
def WL.form{r:iF}{W:World}{e:Ending}{w':World}(h:WL r W e w'):∃a l c f b,e =.returned (.tuple #[.agg #[.slice a l c,.bool f],.i b]):=by
 rcases h.2 with⟨b,_,_,rfl⟩|⟨f,d,a,l,c,_,rfl,_⟩
 .exact⟨_,_,_,_,_,rfl⟩
 .exact⟨_,_,_,_,_,rfl⟩
def NT{w:World}{R l c:Nat}{a:Option Addr}{f:Bool}{T:TypeId}(b:w.heap[R]?=some (.cells #[.slice a l c,.bool f] T (0,0)))(n:Nat)(z:Int):w.cell? ⟨R,n,none⟩≠some (.i z):=by intro h;rcases n with _|_|n<;>simp[World.cell?,b]at h
def rC.ne{ok:Nat->Prop}{w:World}{R l c:Nat}{a:Option Addr}{f:Bool}{T:TypeId}(n:w.heap[R]?=some (.cells #[.slice a l c,.bool f] T (0,0))){p:Option Addr}{i:Nat}{v:Value}(h:rC ok w p i v):rC (λb=>ok b/\b≠R) w p i v:=by obtain⟨b,o,e,q,t,g,s,j,r,d,m⟩:=h;exact⟨b,o,e,⟨q,λk=>by subst k;exact NT n _ _ d⟩,t,g,s,j,r,d,m⟩
def aH.ne{ok:Nat->Prop}{w:World}{R l c:Nat}{a:Option Addr}{f:Bool}{T:TypeId}(e:w.heap[R]?=some (.cells #[.slice a l c,.bool f] T (0,0))){t:Ty}{v:Value}(h:aH ok w t v):aH (λb=>ok b/\b≠R) w t v:=by
 induction h with
 | mk V k d n g _ m=>exact .mk V k d n (λi j=>(g i j).ne e) m
def jo.set{w:World}{ts:List Ty}{u:Value}(h:jo w ts u){R l c:Nat}{a:Option Addr}{f:Bool}{T:TypeId}(n:w.heap[R]?=some (.cells #[.slice a l c,.bool f] T (0,0)))(x y:Value):jo (set2 w R x y) ts u:=by obtain⟨m,p,V,e,q,j⟩:=h;have s:Same (λb=>True/\b≠R) w (set2 w R x y):=λb o r g=>qn ((vI w R x y).block b g (by have:=r.2;simp;omega));have k:dw (λb=>True/\b≠R) w ts m V:=⟨j.1,λi d=>(j.2.1 i d).ne n,λi d=>(j.2.2 i d).ne n⟩;exact⟨m,p,V,e,q,(k.same s).ae (λ_ _ _=>trivial)⟩
def stand_iff:∀(s:List Ty) (ks:List Int),sFq s ks=true ↔ ks.length<=s.length/\∀i (h:i<ks.length) (a:i<s.length),ks[i]=0\/(s[i]).t=ks[i]
 | s,[]=>by cases s<;>simp[sFq]
 | [],k::ks=>by simp[sFq]
 | T::s,k::ks=>by
  have f:=stand_iff s ks;simp only[sFq,qu,qc3,kh,f,jn,Nat.add_le_add_iff_right];constructor
  .rintro⟨b,a,c⟩;refine⟨a,λi d e=>?_⟩
   cases i with
   | zero=>exact b
   | succ i=>exact c i od od
  .rintro⟨b,a⟩;exact⟨a 0 od od,b,λi d e=>a (i+1) od od⟩
def Af (p n:Int) (ta:Option Addr) (tl tc:Nat) (ra:Option Addr) (rl rc:Nat) (dk dn dp:Int) (ds:ByteArray) (da:Option Addr) (dl dc:Nat):Value :=
 .agg #[.i p,.i n,.slice ta tl tc,.slice ra rl rc,.i dk,.i dn,.i dp,.string ds,.slice da dl dc]
def jo.at{w:World}{s:List Ty}{sa:Option Addr}{sl sc:Nat}(h:jo w s (.slice sa sl sc))(i:Nat)(hi:i<s.length):∃b o t a l k,sa=some ⟨b,o,none⟩/\w.cell? ⟨b,o+2*i,none⟩=some (.i t)/\w.cell? ⟨b,o+(2*i+1),none⟩=some (.slice a l k)/\aH (λ_=>True) w (bB s i) (Go.Proofs.YtgfdimkbfnpepaaGreat.bY t a l k):=by
 obtain⟨n,c,V,e,p,f⟩:=h;simp only[ke]at e;obtain⟨rfl,rfl,rfl⟩:=e;obtain⟨b,o,rfl,_,t,a,l,k,m,g,j⟩:=f.2.1 i hi;have d:=f.2.2 i hi;rw[m]at d;refine⟨b,o,t,a,l,k,rfl,?_,?_,?_⟩
 .rw[ja6];exact g
 .rw[ja6,<-qe0];exact j
 .unfold bB;rw[qt hi];exact d
def RO(W:World)(I R:Obj):W.grownBy ((W.alloc I).alloc R) none/\((W.alloc I).alloc R).heap[W.heap.size]?=some I/\((W.alloc I).alloc R).heap[W.heap.size+1]?=some R:=by refine⟨aJ (aK _) (aK _),CJ W I R,?_⟩;have h:=qT (W.alloc I) R;rwa [show (W.alloc I).heap.size=W.heap.size+1 from by simp]at h
def XJ(W:World)(I R K:Obj):W.grownBy (((W.alloc I).alloc R).alloc K) none/\(((W.alloc I).alloc R).alloc K).heap[W.heap.size]?=some I/\(((W.alloc I).alloc R).alloc K).heap[W.heap.size+1]?=some R/\(((W.alloc I).alloc R).alloc K).heap[W.heap.size+1+1]?=some K:=by obtain⟨a,b,c⟩:=RO W I R;refine⟨aJ a (aK _),aB b,aB c,?_⟩;have h:=qT ((W.alloc I).alloc R) K;rwa [show ((W.alloc I).alloc R).heap.size=W.heap.size+1+1 from by simp]at h
def JJ{w w':World}{a:Addr}{v:Value}(b:w.grownBy w' none)(h:w.cell? a=some v):w'.cell? a=some v:=(qn (b.block _ (kd w _ h) ot)).trans h
def l5{w w':World}{b:Nat}{o:Obj}(h:w.heap[b]?=some o)(a:w.grownBy w' none):w'.heap[b]?=some o:=(a.block _ (qq.1 h).1 ot).trans h
def ZI{w w':World}{b:Nat}{o:Obj}(h:Hid (w.heap[b]?=some o))(g:w.grownBy w' none):Hid (w'.heap[b]?=some o):=l5 h g
def aH.low{w:World}{T:Ty}{v:Value}(h:aH (λ_=>True) w T v):aH (· < w.heap.size) w T v:=h.ae (λb a _=>a)
def KJ{w w':World}{r:Option Nat}(h:w.drew.grownBy w' r):w.grownBy w' r:=⟨h.os,h.tape,h.output,h.size,h.block⟩
def Ip{s:List Ty}{ks:List Int}(h:sFq s ks=true)(i:Nat)(k:Int)(hk:ks[i]?=some k)(b:k≠0):(bB s i).t=k:=by
 obtain⟨f,c⟩:=(stand_iff s ks).1 h;obtain⟨d,e⟩:=jj.1 hk;have a:i<s.length:=od
 have:=c i d a;rw[e]at this;unfold bB;rw[qt a];rcases this with h|h
 .exact absurd h b
 .exact h
def Lt{s:List Ty}(h:s.all bn=true){i:Nat}(hi:i<s.length):bn (bB s i)=true:=by unfold bB;rw[qt hi];exact zr.1 h _ (zj hi)
def xL{T:Ty}(h:bn T=true):(T.args.length:Int)=bT T.t:=by obtain⟨t,args⟩:=T;simp only[bn,j5,qu,kh]at h;exact h.1.1.1.2.2
variable {K:Nat->Prop}
def Uf:(prog.info? 24).map (λi=>(i.zero,i.size,i.bytes))=some (some (.n0),1,24):=oA
def AU (B:Nat) (w:World) (v:Value) (vs:List Value):Prop:=w.ownsRow B 24 1 v vs.length vs
def bI.Y5{ok:Nat->Prop}{w:World}{t:Tr}{v:Value}(h:bI ok w t v):∀{k n p:Int}{s:ByteArray}{a:Option Addr}{l c:Nat},v=Go.Proofs.YtgfdimkbfnpepaaGreat.af k n p s a l c->l<=c:=by
 cases h with
 | mk V d g j i m b f =>
  intro k n p s a l c e;simp only[Go.Proofs.YtgfdimkbfnpepaaGreat.af,qb3,qc1,xj,ke,and_true]at e;omega
structure kP (K:Nat->Prop) (WB w:World) (ib:Nat) (types:List Ty) (rows:List (List Tr)) (tv rv:Value) (vs rvs:List Value):Prop where
 grow:WB.grownBy w (some ib)
 lt:ib<WB.heap.size
 nR:wS WB.heap.size w tv vs
 CU:vs.length=types.length
 LF:∀(k:Nat) (t:Ty) (u:Value),types[k]?=some t->vs[k]?=some u->aH (λb=>WB.heap.size<=b/\some b≠tv.ownBlock/\some b≠rv.ownBlock) w t u
 sD:AU WB.heap.size w rv rvs
 CS:rvs.length=rows.length
 LD:∀(k:Nat) (l:List Tr) (u:Value),rows[k]?=some l->rvs[k]?=some u->∃na nc VN,u =.slice na l.length nc/\l.length<=nc/\cK (λb=>K b/\b+1<ib) WB l na VN
def BL{w:World}{B C:Nat}{e c:TypeId}{size a n l:Nat}{v v':Value}{xs b:List Value}(h:w.ownsRow B e size v n xs)(i:w.ownsRow C c a v' l b)(j:e≠c):v.ownBlock=none\/v.ownBlock≠v'.ownBlock:=by
 rcases h.2 with⟨rfl,_⟩|⟨g,d,f,rfl,_,k,_⟩
 .exact .inl rfl
 .exact .inr (aD i k (Ne.symm j))
def kP.step{f w w':World}{a:Nat}{types:List Ty}{rows:List (List Tr)}{i g:Value}{vs c:List Value}(h:kP K f w a types rows i g vs c)(d:w.grownBy w' (some a)):kP K f w' a types rows i g vs c:=by
 have m:=h.lt;refine⟨fF h.grow d,h.lt,zp h.nR d ?_,h.CU,λk t u n p=>(h.LF k t u n p).same ?_,zp h.sD d ?_,h.CS,h.LD⟩
 .refine .inr λe=>?_;have:=(kp h.nR a e).1;omega
 .intro b o j l;exact qn (d.block b l (by have:=j.1;simp;omega))
 .refine .inr λe=>?_;have:=(kp h.sD a e).1;omega
def kP.call{b w w':World}{c:Nat}{types:List Ty}{rows:List (List Tr)}{e d:Value}{vs a:List Value}(h:kP K b w c types rows e d vs a)(f:w.grownBy w' none):kP K b w' c types rows e d vs a:=h.step (kL f)
def kP.YI{j w w':World}{A:Nat}{types:List Ty}{rows:List (List Tr)}{tv n a:Value}{vs r:List Value}{t:Ty}{u:Value}{S:Nat}(h:kP K j w A types rows tv n vs r)(L:j.heap.size<=S)(s:∀k,tv.ownBlock=some k->k<S)(D:∀k,n.ownBlock=some k->k<S)(E:aH (S <= ·) w t u)(d:Gr w tv w' a)(I:wS j.heap.size w' a (vs++[u])) :
 kP K j w' A (types++[t]) rows a n (vs++[u]) r:=by
 have p:=h.lt;have v:=BL h.sD h.nR ov;have x:∀t u,aH (λb=>j.heap.size<=b/\some b≠tv.ownBlock/\some b≠n.ownBlock) w t u->aH (λb=>j.heap.size<=b/\some b≠a.ownBlock/\some b≠n.ownBlock) w' t u:=by
  intro t u H;have s:=H.ae (ok':=λb=>j.heap.size<=b/\some b≠tv.ownBlock/\some b≠a.ownBlock/\some b≠n.ownBlock) (λb c l=>⟨l.1,l.2.1,by
   rcases d.2 with e|⟨g,e,G⟩
   .rw[e];exact l.2.1
   .rw[e];simp;omega,l.2.2⟩)
  refine (s.same (w':=w') ?_).ae (λb _ c=>⟨c.1,c.2.2.1,c.2.2.2⟩);intro b o c p;exact qn (d.block p c.2.1)
 refine⟨?_,h.lt,I,by simp[h.CU],λk B C f m=>x B C ?_,zp h.sD d.1 v,h.CS,h.LD⟩
 .refine⟨d.1.os.trans h.grow.os,d.1.tape.trans h.grow.tape,d.1.output.trans h.grow.output,ki h.grow.size d.1.size,λi y J=>(d.1.block i (jz y h.grow.size) (λe=>by have:=(kp h.nR i e.symm).1;omega)).trans (h.grow.block i y J)⟩
 .by_cases l:k<types.length
  .rw[jt l]at f;rw[jt (by rw[h.CU];exact l)]at m;exact h.LF k B C f m
  .rw[js od]at f;rw[js (by rw[h.CU];omega),h.CU]at m
   cases z:k - types.length with
   | zero =>
    rw[z]at f m;simp at f m;subst f;subst m;exact E.ae (λb _ c=>by
     have F:S<=b:=c;refine⟨od,λe=>?_,λe=>?_⟩
     .have:=s b e.symm;omega
     .have:=D b e.symm;omega)
   | succ q=>rw[z]at f;simp at f
def kP.YH{j w w':World}{z:Nat}{types:List Ty}{rows:List (List Tr)}{tv v a:Value}{vs n:List Value}{l:List Tr}{na:Option Addr}{nc:Nat}{VN:Nat->Value}(h:kP K j w z types rows tv v vs n)(F:cK (λb=>K b/\b+1<z) j l na VN)(r:l.length<=nc)(d:Gr w v w' a)(I:AU j.heap.size w' a (n++[.slice na l.length nc])) :
 kP K j w' z types (rows++[l]) tv a vs (n++[.slice na l.length nc]):=by
 have s:=h.lt;have y:=BL h.nR h.sD ov;have A:∀t u,aH (λb=>j.heap.size<=b/\some b≠tv.ownBlock/\some b≠v.ownBlock) w t u->aH (λb=>j.heap.size<=b/\some b≠tv.ownBlock/\some b≠a.ownBlock) w' t u:=by
  intro t u H;have E:=H.ae (ok':=λb=>j.heap.size<=b/\some b≠v.ownBlock/\some b≠tv.ownBlock/\some b≠a.ownBlock) (λb p m=>⟨m.1,m.2.2,m.2.1,by
   rcases d.2 with e|⟨g,e,G⟩
   .rw[e];exact m.2.2
   .rw[e];simp;omega⟩)
  refine (E.same (w':=w') ?_).ae (λb _ p=>⟨p.1,p.2.2.1,p.2.2.2⟩);intro b o p s;exact qn (d.block s p.2.1)
 refine⟨?_,h.lt,zp h.nR d.1 y,h.CU,λk D x c f=>A D x (h.LF k D x c f),I,by simp[h.CS],λk L x c f=>?_⟩
 .refine⟨d.1.os.trans h.grow.os,d.1.tape.trans h.grow.tape,d.1.output.trans h.grow.output,ki h.grow.size d.1.size,λi B J=>(d.1.block i (jz B h.grow.size) (λe=>by have:=(kp h.sD i e.symm).1;omega)).trans (h.grow.block i B J)⟩
 .by_cases m:k<rows.length
  .rw[jt m]at c;rw[jt (by rw[h.CS];exact m)]at f;exact h.LD k L x c f
  .rw[js od]at c;rw[js (by rw[h.CS];omega),h.CS]at f
   cases C:k - rows.length with
   | zero =>
    rw[C]at c f;simp at c f;subst c;subst f;exact⟨na,nc,VN,rfl,r,F⟩
   | succ q=>rw[C]at c;simp at c
def nA (K:Nat->Prop) (WB w:World) (ib:Nat) (i:Ins):Prop :=
 ∃(tv rv:Value) (vs rvs:List Value) (da:Option Addr) (dc:Nat),w.heap[ib]?=some (.cells #[.i i.p,.i i.n,tv,rv,.i i.data.k0,.i i.data.n0,.i i.data.p0,.string i.data.s0,.slice da i.data.args0.length dc] 104 (0,0)) /\
  kP K WB w ib i.types i.rows tv rv vs rvs/\bI (λb=>K b/\b+1<ib) WB i.data (af i.data.k0 i.data.n0 i.data.p0 i.data.s0 da i.data.args0.length dc)
def nA.call{b w w':World}{d:Nat}{i:Ins}(h:nA K b w d i)(c:w.grownBy w' none):nA K b w' d i:=by obtain⟨m,l,n,a,e,f,g,j,k⟩:=h;exact⟨m,l,n,a,e,f,l5 g c,j.call c,k⟩
def vB{w:World}{B:Nat}{e:TypeId}{size n:Nat}{v:Value}{xs:List Value}(h:w.ownsRow B e size v n xs):∃a c,v =.slice a n c/\n<=c:=by
 rcases h.2 with⟨rfl,rfl⟩|⟨g,b,d,rfl,_,_,f,_⟩
 .exact⟨none,0,rfl,qv _⟩
 .exact⟨_,b,rfl,f⟩
def PM (J:Nat->Prop) (w:World) (rows:List (List Tr)) (a:Option Addr):Prop :=
 ∀(k:Nat) (l:List Tr),rows[k]?=some l->∃b o na nc VN,a=some ⟨b,o,none⟩/\(J b/\l.length<=nc)/\w.cell? ⟨b,o+k,none⟩=some (.slice na l.length nc)/\cK J w l na VN
def PM.mono{J J':Nat->Prop}{w:World}{rows:List (List Tr)}{a:Option Addr}(h:PM J w rows a)(d:∀b,J b->J' b):PM J' w rows a:=λk l m=>by obtain⟨b,o,n,p,f,e,c,g,i⟩:=h k l m;exact⟨b,o,n,p,f,e,⟨d b c.1,c.2⟩,g,i.ae (λb _ j=>d b j)⟩
def nA.done{s w w':World}{z rb:Nat}{i:Ins}(h:nA K s w z i)(x:w.grownBy w' (some rb))(aa:rb+1=z):∃(ta:Option Addr) (tc:Nat) (ra:Option Addr) (rc:Nat) (da:Option Addr) (A:Nat),
 w.heap[z]?=some (.cells #[.i i.p,.i i.n,.slice ta i.types.length tc,.slice ra i.rows.length rc,.i i.data.k0,.i i.data.n0,.i i.data.p0,.string i.data.s0,.slice da i.data.args0.length A] 104 (0,0)) /\
 (i.types.length<=tc/\∃V,dw (s.heap.size <= ·) w' i.types ta V)/\PM (λb=>K b\/s.heap.size<=b) w' i.rows ra/\i.rows.length<=rc/\bI K w' i.data (af i.data.k0 i.data.n0 i.data.p0 i.data.s0 da i.data.args0.length A):=by
 obtain⟨tv,rv,P,f,da,A,J,d,R⟩:=h;obtain⟨ta,tc,rfl,_⟩:=vB d.nR;obtain⟨ra,rc,rfl,H⟩:=vB d.sD;have Z:=d.lt;have ab:=d.grow.size;have j:Same (λb=>K b/\b+1<z) s w':=λb o B G=>by have X:b+1<z:=B.2;exact (qn (x.block b (by show b<_;omega) oB)).trans (qn (d.grow.block b G oB))
 have F:gz s.heap.size w (.slice ta P.length tc) i.types P:=⟨d.nR,d.CU,λk t u ht I=>(d.LF k t u ht I).ae (λb _ B=>⟨B.1,B.2.1⟩)⟩;have Y:=F.keep x od;have hR:AU s.heap.size w' (.slice ra f.length rc) f:=zp d.sD x (.inr λe=>by have:=(kp d.sD rb e).1;omega);obtain⟨a,c,V,e,k1,k2⟩:=Y.done;simp only[ke]at e;obtain⟨rfl,_,rfl⟩:=e;have M:i.types.length<=maxLen/\i.types.length<=tc:=by
  have G:=d.CU;rcases d.nR.2 with⟨r,D⟩|⟨g,C,q,r,_,_,S,T,_⟩
  .rw[G]at D;rw[D];exact⟨kB _,kB _⟩
  .simp only[ke]at r;obtain⟨_,_,rfl⟩:=r;exact⟨od,od⟩
 rw[d.CU,d.CS]at J;refine⟨ta,tc,ra,rc,da,A,J,⟨M.2,V,M.1,k1,k2⟩,λk l y=>?_,by rw[<-d.CS];exact H,(R.same j).ae (λ_ _ h=>h.1)⟩;have m:k<f.length:=by rw[d.CS];exact (jj.1 y).1
 obtain⟨N,O,Q,I,v,hN⟩:=d.LD k l f[k] y (qt m);rcases hR.2 with⟨r,D⟩|⟨g,C,q,r,E,x,S,_,T,U⟩
 .omega
 .simp only[ke]at r;obtain⟨rfl,_,rfl⟩:=r;refine⟨g,0,N,O,Q,rfl,⟨.inr E,v⟩,?_,(hN.same j).ae (λ_ _ h=>.inl h.1)⟩;have L:(q.toList.take (f.length*1))[k]?=f[k]?:=by rw[U]
  rw[qc7,oc,qt m,I]at L;have W:q[k]?=some (.slice N l.length O):=by simpa using L
  simp[World.cell?,x,W]
variable {K:Nat->Prop}
def pM{w:World}{g:Nat}{T:TypeId}{x0 a b c d e f i j:Value}(h:w.heap[g]?=some (.cells #[x0,a,b,c,d,e,f,i,j] T (0,0))):∀o,w.frozen? ⟨g,o,none⟩=false:=by intro o;simp[World.frozen?,h]
def XE{w:World}{g:Nat}{T:TypeId}{x0 j a b c d e f i:Value}(h:w.heap[g]?=some (.cells #[x0,j,a,b,c,d,e,f,i] T (0,0)))(y:Value):(w.setCell ⟨g,1,none⟩ y).heap[g]?=some (.cells #[x0,y,a,b,c,d,e,f,i] T (0,0)):=by simp[World.setCell,yr,h]
def XF{w:World}{g:Nat}{T:TypeId}{x0 a j b c d e f i:Value}(h:w.heap[g]?=some (.cells #[x0,a,j,b,c,d,e,f,i] T (0,0)))(y:Value):(w.setCell ⟨g,2,none⟩ y).heap[g]?=some (.cells #[x0,a,y,b,c,d,e,f,i] T (0,0)):=by simp[World.setCell,yr,h]
def XG{w:World}{g:Nat}{T:TypeId}{x0 a b j c d e f i:Value}(h:w.heap[g]?=some (.cells #[x0,a,b,j,c,d,e,f,i] T (0,0)))(y:Value):(w.setCell ⟨g,3,none⟩ y).heap[g]?=some (.cells #[x0,a,b,y,c,d,e,f,i] T (0,0)):=by simp[World.setCell,yr,h]
def XH{w:World}{g:Nat}{T:TypeId}{x0 a b c k l m n o:Value}(h:w.heap[g]?=some (.cells #[x0,a,b,c,k,l,m,n,o] T (0,0)))(d e f i j:Value):(((((w.setCell ⟨g,4,none⟩ d).setCell ⟨g,5,none⟩ e).setCell ⟨g,6,none⟩ f).setCell ⟨g,7,none⟩ i).setCell ⟨g,8,none⟩ j).heap[g]?=some (.cells #[x0,a,b,c,d,e,f,i,j] T (0,0)):=by simp[World.setCell,yr,h]
def lG (K:Nat->Prop) (WB:World) (ib:Nat) (i:Ins) (f:UInt8) (t:Tr) (e:Ending) (w':World):Prop :=
 ∃ok,e =.returned (.bool ok)/\WB.grownBy w' (some ib)/\((ok=false/\iy i f t=none)\/(ok=true/\∃j,iy i f t=some j/\nA K WB w' ib j))
def uN{a w':World}{b:Nat}{i:Ins}{f:UInt8}{t:Tr}(h:iy i f t=none)(c:a.grownBy w' (some b)):lG K a b i f t (.returned (.bool false)) w':=⟨false,rfl,c,.inl ⟨rfl,h⟩⟩
def yC{a w':World}{b:Nat}{i j:Ins}{f:UInt8}{t:Tr}(h:iy i f t=some j)(c:a.grownBy w' (some b))(d:nA K a w' b j):lG K a b i f t (.returned (.bool true)) w':=⟨true,rfl,c,.inr ⟨rfl,j,h,d⟩⟩
def Vq{o W:World}{j:Nat}{i:Ins}{t:Tr}{G:Value}(O:nA K o W j i)(B:bI (λb=>K b/\b+1<j) o t G) :
 Calls prog 101 #[.pointer (some ⟨j,0,none⟩),.int .u8 110,G] W (lG K o j i 110 t):=by
 obtain⟨tv,V,X,x,I,J,q,C,A⟩:=O;obtain⟨s,u,Y,y,⟨ik,iN,ip,P⟩,p⟩:=B.yX;rw[y];unfold af;have g:=aK (w:=W) (.cells #[.i t.k0,.i t.n0,.i t.p0,.string t.s0,.slice s t.args0.length u] 26);have d:=qT W (.cells #[.i t.k0,.i t.n0,.i t.p0,.string t.s0,.slice s t.args0.length u] 26);have c:=l5 q g;have k:=C.call g;have r:W.heap.size≠j:=by have:=(qq.1 q).1;omega
 have E:=XE c (.i t.n0);have h:=dY (bM (W.alloc (.cells #[.i t.k0,.i t.n0,.i t.p0,.string t.s0,.slice s t.args0.length u] 26)) (some j)) 1 none (.i t.n0);have f:=k.step h;have e:=(h.block W.heap.size (qq.1 d).1 (by simpa using r)).trans d;have l:=f.grow;have H:Hid (nA K o _ j { i with n:=t.n0 }):=⟨tv,V,X,x,I,J,E,f,A⟩;have a:=jh l;obtain⟨m0,m1,m2,m3,m4⟩:=bE d;obtain⟨Q,R,S,T,U⟩:=bE e;have fr:=pM c;obtain⟨Z,c1,c2,c3,_⟩:=nL c;have D:iy i 110 t=if t.k0=0/\0<=t.n0/\t.n0<=40 then some { i with n:=t.n0 } else none:=by simp[iy]
 have m:=jh D;clear D l e f h E k c g d C A q B p y;generalize t.k0=F at *;generalize t.n0=v at *
 by_cases z:F=0
 .subst z
  by_cases M:0<=v
  .by_cases N:v<=40
   .go_enter func101,ntmps101;go_wp2_with fail;go_ret;exact yC (show iy i 110 t=some { i with n:=v } by rw[m.out];simp[M,N]) a H
   .go_enter func101,ntmps101;go_wp2_with fail;go_ret;exact uN (by rw[m.out,oa]) a
  .go_enter func101,ntmps101;go_wp2_with fail;go_ret;exact uN (by rw[m.out,oa]) a
 .have L:(F==0)=false:=by simpa using z
  go_enter func101,ntmps101;go_wp2_with fail;go_ret;exact uN (by rw[m.out,oa]) a
def pS{α:Type} : (∀(l:List α) (i:Nat) (a:α),l.toArray.setIfInBounds i a=(l.set i a).toArray)/\(∀(a b:α) (l:List α),(a::l).set 0 b=b::l)/\(∀(a b:α) (l:List α) (n:Nat),(a::l).set (n+1) b=a::l.set n b) :=
 ⟨λl i a=>kO ..,λa b l=>xF ..,λa b l n=>zE ..⟩
variable {K:Nat->Prop}
section
variable {P:Program}{ops:Array Oper}{Q:Exit->Act->World->Prop}{md:Region.Mode}{S:World->Prop}
def Wl(i:Nat)(d:Tmp){g:Act}{e:Nat}{b:Array Bool}{a:Act}{w:World}(h:wpAnyH P md ops Q S e (b.setIfInBounds i true) g w)
 (hi:∃f,ops[i]?=some f/\f.dst=some d/\Region.wanted f (yielded ops a.tmps)=false:=by exact⟨_,rfl,rfl,by rfl⟩)
 (hs:Region.noSelect ops=true:=by kernel_rfl) (hf:Region.free md ops b i=true:=by kernel_rfl) (hr:(Region.ready md ops b).contains i=true:=by kernel_rfl)
 (hQ:∀c a w,Q (.panic c) (a.put (some d) undef) w->Q (.panic c) a w:=by exact λ_ _ _ h=>h) (hS:S w:=by assumption) (h9:a.put (some d) undef=g:=by simp only[Act.put,pS];rfl):wpAnyH P md ops Q S (e+1) b a w:=by
 subst h9;obtain⟨f,j,k,l⟩:=hi;rw[<-k]at hQ h;exact wpAnyH_take j hs hf hr hQ (.inr ⟨l,rfl⟩) hS h
def LX(i:Nat)(d:Tmp){v:Value}{e:Nat}{b:Array Bool}{a:Act}{w:World}(hi:∃f,ops[i]?=some f/\f.dst=some d/\Region.wanted f (yielded ops a.tmps)=true/\∀w,S w->(execOp a.eval f).run P w =.ok (.value v) w)
 (h:wpAnyH P md ops Q S e (b.setIfInBounds i true) (a.put (some d) v) w)
 (hs:Region.noSelect ops=true:=by kernel_rfl) (hf:Region.free md ops b i=true:=by kernel_rfl) (hr:(Region.ready md ops b).contains i=true:=by kernel_rfl)
 (hQ:∀c a w,Q (.panic c) (a.put (some d) v) w->Q (.panic c) a w:=by exact λ_ _ _ h=>h) (hS:S w:=by assumption):wpAnyH P md ops Q S (e+1) b a w:=by
 obtain⟨f,g,j,k,l⟩:=hi;rw[<-j]at hQ h;exact wpAnyH_take g hs hf hr hQ (.inl ⟨k,l⟩) hS h
end
def fG(i:Nat)(d:Tmp){k:Act}{P:Program}{e:Array Oper}{Q:Exit->Act->World->Prop}{j:Region.Mode}{S:World->Prop}{v:Value}{g:Oper}{f:Nat}{b:Array Bool}{a:Act}{w:World}(h:wpAnyH P j e Q S f (b.setIfInBounds i true) k w)
 (h1:e[i]?=some g:=by rfl) (h2:g.dst=some d:=by rfl) (h3:Region.wanted g (yielded e a.tmps)=true:=by rfl)
 (h4:∀w,S w->(execOp a.eval g).run P w =.ok (.value v) w:=by intro w l;go_simp;try with_reducible rfl)
 (hs:Region.noSelect e=true:=by kernel_rfl) (hf:Region.free j e b i=true:=by kernel_rfl) (hr:(Region.ready j e b).contains i=true:=by kernel_rfl)
 (hQ:∀c a w,Q (.panic c) (a.put (some d) v) w->Q (.panic c) a w:=by exact λ_ _ _ h=>h) (hS:S w:=by assumption) (h9:a.put (some d) v=k:=by simp only[Act.put,pS];rfl):wpAnyH P j e Q S (f+1) b a w :=
 LX i d ⟨g,h1,h2,h3,h4⟩ (h9 ▸ h) hs hf hr hQ hS
def UC{w:World}{B n g cap:Nat}{e:TypeId}{xs:List Value}{a0 b:Value}(h:w.ownsRow B e 2 (.slice (some ⟨g,0,none⟩) (n+1) cap) (n+1) (xs++[a0,b])) :
 w.cell? ⟨g,n*2,none⟩=some a0/\w.cell? ⟨g,n*2+1,none⟩=some b/\(∀o,w.frozen? ⟨g,o,none⟩=false)/\B<=g:=by
 have q:=h.1;simp at q;rcases h.2 with⟨c,_⟩|⟨r,f,a,c,p,d,s,t,u,k⟩
 .simp at c
 .simp only[ke,qk,qb2,and_true,true_and]at c;obtain⟨rfl,rfl⟩:=c;have i:(a.toList.take ((n+1)*2))[n*2]?=some a0:=by rw[k,js od];simp[show n*2 - xs.length=0 by omega]
  have j:(a.toList.take ((n+1)*2))[n*2+1]?=some b:=by rw[k,js od];simp[show n*2+1 - xs.length=1 by omega]
  rw[qc7,oc]at i j;have l:a[n*2]?=some a0:=by simpa using i
  have m:a[n*2+1]?=some b:=by simpa using j
  exact⟨by simp[World.cell?,d,l],by simp[World.cell?,d,m],λo=>by simp[World.frozen?,d],p⟩
def Ra{w:World}{B n g cap:Nat}{e:TypeId}{xs:List Value}{a0 j:Value}(f i:Value)(h:w.ownsRow B e 2 (.slice (some ⟨g,0,none⟩) (n+1) cap) (n+1) (xs++[a0,j])) :
 ((w.setCell ⟨g,n*2,none⟩ f).setCell ⟨g,n*2+1,none⟩ i).ownsRow B e 2 (.slice (some ⟨g,0,none⟩) (n+1) cap) (n+1) (xs++[f,i]):=by
 have t:=h.1;simp at t;refine⟨oB,?_⟩;rcases h.2 with⟨b,_⟩|⟨x,l,a,b,p,q,m,r,o,s⟩
 .simp at b
 .simp only[ke,qk,qb2,and_true,true_and]at b;obtain⟨rfl,rfl⟩:=b;refine .inr ⟨g,cap,(a.setIfInBounds (n*2) f).setIfInBounds (n*2+1) i,rfl,p,?_,m,r,by simpa using o,?_⟩
  .simp[World.setCell,yr,q]
  .apply List.ext_getElem?;intro k;have c:(a.toList.take ((n+1)*2))[k]?=(xs++[a0,j])[k]?:=by rw[s]
   by_cases d:k<(n+1)*2
   .rw[qc7,if_pos d]at c|-
    by_cases v:k<xs.length
    .rw[jt v]at c|-;rw[<-c];simp only[Array.toList_setIfInBounds];rw[qd1 od,qd1 od]
    .have u:(n+1)*2<=a.size:=by rw[o];exact jb7 2 m
     rcases (show k=n*2\/k=n*2+1 by omega)with rfl|rfl
     .rw[js od,show n*2 - xs.length=0 by omega];simp only[Array.toList_setIfInBounds];rw[qd1 od,qf4 oB];rfl
     .rw[js od,show n*2+1 - xs.length=1 by omega];simp only[Array.toList_setIfInBounds];rw[qf4 oB];rfl
   .rw[jb2 oB,jb2 oB]
def bu{w:World}{g h o p:Nat}(x y:Value)(c:g≠h):(w.setCell ⟨g,o,none⟩ x).setCell ⟨h,p,none⟩ y=(w.setCell ⟨h,p,none⟩ y).setCell ⟨g,o,none⟩ x:=by
 simp only[World.setCell]
 congr 1
 apply Array.ext_getElem?;intro k;simp only[yr]
 by_cases a:h=k<;>by_cases b:g=k
 .omega
 .simp[a,b]
 .simp[a,b]
 .simp[a,b]
def NY{w:World}{B g cap:Nat}{vs:List Value}{k:Int}{sa:Option Addr}{sl sc:Nat}(h:wS B w (.slice (some ⟨g,0,none⟩) (vs.length+1) cap) (vs++[bY 0 none 0 0])) :
 wS B ((w.setCell ⟨g,vs.length*2,none⟩ (.i k)).setCell ⟨g,vs.length*2+1,none⟩ (.slice sa sl sc)) (.slice (some ⟨g,0,none⟩) (vs.length+1) cap) (vs++[bY k sa sl sc]):=by
 unfold wS at h|-;simp only[dx,qS,yW]at h|-;exact Ra _ _ h
def vz{w:World}{B g cap:Nat}{vs:List Value}(h:wS B w (.slice (some ⟨g,0,none⟩) (vs.length+1) cap) (vs++[bY 0 none 0 0])) :
 w.cell? ⟨g,vs.length*2,none⟩=some (.i 0)/\w.cell? ⟨g,vs.length*2+1,none⟩=some (.n0)/\(∀o,w.frozen? ⟨g,o,none⟩=false)/\B<=g:=by
 unfold wS at h;simp only[dx,qS,yW]at h;exact UC h
def Qt{w w':World}{v:Value}{g n cap:Nat}(h:Gr w v w' (.slice (some ⟨g,0,none⟩) n cap))(o:Nat)(x:Value):Gr w v (w'.setCell ⟨g,o,none⟩ x) (.slice (some ⟨g,0,none⟩) n cap):=by
 refine⟨?_,h.2⟩;have a:=dY (bM w' (some g)) o none x;refine⟨a.os.trans h.1.os,a.tape.trans h.1.tape,a.output.trans h.1.output,ki h.1.size a.size,λk d c=>?_⟩;refine (a.block k (jz d h.1.size) (λe=>?_)).trans (h.1.block k d c);rcases h.2 with b|⟨i,b,f⟩
 .rw[<-b]at c;exact c e
 .simp[Value.ownBlock]at b;simp at e;omega
