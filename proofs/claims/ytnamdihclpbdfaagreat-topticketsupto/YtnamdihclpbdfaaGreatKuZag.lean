import Derived.Test.YtnamdihclpbdfaaGreatKuZaf
import Derived.Deep.RegionWith
namespace Go.Proofs.YtnamdihclpbdfaaGreat
set_option linter.all false
open Go.Proofs.Tryz
set_option maxRecDepth 100000
set_option maxHeartbeats 4000000
open Go.ChangeShapes Go.WideShapes Go.ChangeAt Go.RowKit
mutual
def encTr:Tr->bw
 | .nd k n p s args=>k.toNat.toUInt8::(if k=0 then pE n else if k=1 then pE s.size++s.data.toList else if k=2 then p.toNat.toUInt8::(pE args.length++encTrs args)else pE args.length++encTrs args)
def encTrs:aE->bw
 | []=>[]
 | t::ts=>encTr t++encTrs ts
end
def vV(a b:aE):encTrs (a++b)=encTrs a++encTrs b:=by
 induction a with
 | nil=>simp[encTrs]
 | cons t ts c=>simp[encTrs,c]
def yP(l:aE)(i:Nat)(h:i<l.length):encTrs (l.take (i+1))=encTrs (l.take i)++encTr l[i]:=by rw[jc0 h,vV];simp[encTrs]
def Ab(l:aE)(i:Nat):(encTrs (l.take i)).length<=(encTrs l).length:=by have h:=vV (l.take i) (l.drop i);rw[qc6]at h;rw[h];simp
def nJ (B:Nat) (w:cg) (vb:cm) (l:bw) (e:Ending) (w':cg):Prop:=∃v',e =.returned v'/\om B w' v' l/\Gr w vb w' v'
def VU (B:Nat) (w0:cg) (v:cm) (t:Tr):Prop:=∀(xs:bw) (vb:cm) (w2:cg),Below B w0 w2->om B w2 vb xs->xs.length+(encTr t).length<=1000000 ->
 Calls prog 248 #[vb,v] w2 (nJ B w2 vb (xs++encTr t))
def BZ{B:Nat}{x:cg}{args:aE}{a:bj}{c:Nat}(V:bt)(D:B<=x.heap.size)(hc:∀i,i<args.length->ky (· < B) x a i (V i))(J:∀i (h:i<args.length),VU B x (V i) args[i])
 (xs:bw) (vb:cm) (w2:cg) (hb:Below B x w2) (hown:om B w2 vb xs) (hlen:xs.length+(pE args.length++encTrs args).length<=1000000) (hal:args.length<=1000000) :
 Calls prog 255 #[vb,.slice a args.length c] w2 (nJ B w2 vb (xs++(pE args.length++encTrs args))):=by
 have⟨Q,HI,HB⟩:=JT hc J hb;have k:B<=w2.heap.size:=xo D hb.size;have T:=jh hown;have G:=jh (qf B args.length ⟨od,od⟩ od vb xs w2 hown k od);rw[jx]at hlen;clear hc J hb hown;go_enter func255,ntmps255;go_wp2_with fail;refine G.out.mono ?_;rintro e w3 ⟨v3,rfl,d,p⟩;have A:=jh d;have y:=jh p;clear d p G;go_wp2_with fail;go_loopw [0,13] (λv i wr=>∃j:Nat,j<=args.length/\i =.i j/\om B wr v (xs++pE args.length++encTrs (args.take j))/\Gr w2 vb wr v) (λ_ i _=>args.length - (intOf i).toNat)
 case atStart=>exact⟨0,yv _,rfl,by simpa[encTrs]using A.out,y.out⟩
 case round =>
  obtain⟨j,hj,rfl,m,r⟩:=hrel;have hb:=r.below T.out k
  by_cases l:j<args.length
  .have hA:=(Q.out j l).same (Same.below (HB.out.trans hb));obtain⟨b,o,rfl,U,L,N,O,P,H,M,I,K,W,X,Y,Z,e4⟩:=hA;have n:=yP args j l;have E:=Ab args (j+1);have t:=congrArg List.length n;rw[jx]at t;have F:B<=wr.heap.size:=xo k hb.size;have w:=HI.out j l (xs++pE args.length++encTrs (args.take j)) u0 (wr.alloc (.cells #[.i L,.i N,.i O,.string P,.slice H M I] 62))
    ((HB.out.trans hb).alloc F _) (qg4 m _) (by simp only[jx];omega)
   rw[K]at w;unfold af at w;have⟨S,C,z⟩:=JT w n (r.alloc (.cells #[.i L,.i N,.i O,.string P,.slice H M I] 62));clear w n hb r m K E t;go_wp2_with fail;refine S.out.mono ?_;rintro e w4 ⟨v4,rfl,u,q⟩;have g:=jh u;have f:=jh q;clear u q;go_wp2;go_roundw
   case rel=>exact⟨j+1,od,by go_num,by rw[C.out,<-qa3];exact g.out,z.out.trans f.out⟩
   case measure=>simp[intOf];omega
  .have s:j=args.length:=by omega
   have⟨g,f,R⟩:=JT m r s;clear m hb r s;go_wp2;go_ret;have m:=g.out;rw[R.out,je6,qa3]at m;exact⟨_,rfl,m,f.out⟩
def CG{k n p:Int}{s:bp}{l:Nat}(h:Lf.fD k n p s l=0):(0<=k/\k<=3)/\(k=2->Lf.gD p)/\Lf.qM k n p s l=false/\(-1152921504606846976<=n/\n<=1152921504606846976)/\s.size<=200:=by
 unfold Lf.fD at h
 by_cases a:Lf.rP k=false
 .simp[a]at h
 rw[if_neg a]at h
 by_cases b:k=2/\Lf.gD p=false
 .simp[b]at h
 rw[if_neg b]at h
 by_cases c:Lf.qM k n p s l
 .simp[c]at h
 rw[if_neg c]at h
 by_cases d:n < -1152921504606846976\/1152921504606846976<n
 .rw[if_pos d]at h;omega
 rw[if_neg d]at h
 by_cases f:200<s.size
 .rw[if_pos f]at h;omega
 refine⟨by simpa[Lf.rP]using a,λe=>?_,by simpa using c,od,od⟩;simpa[e]using b
def zP{d:Nat}{k n p:Int}{s:bp}{args:aE}(h:bC d (.nd k n p s args)=0):d<=24/\Lf.fD k n p s args.length=0/\bG (d+1) args=0:=by
 rw[bC]at h
 by_cases b:24<d
 .rw[if_pos b]at h;omega
 rw[if_neg b]at h
 by_cases a:Lf.fD k n p s args.length=0
 .rw[if_neg (by simpa using a)]at h;exact⟨od,a,h⟩
 .rw[if_pos a]at h;exact absurd h a
def rJ{d:Nat}{args:aE}(h:bG d args=0):∀t∈args,bC d t=0:=by
 induction args with
 | nil=>simp
 | cons t ts c =>
  rw[bG]at h
  by_cases a:bC d t=0
  .rw[if_neg (by simpa using a)]at h;intro x b;rcases kl.1 b with rfl|b
   .exact a
   .exact c h x b
  .rw[if_pos a]at h;exact absurd h a
def BS{p:Int}(h:Lf.gD p):1<=p/\p<=95:=by simp[Lf.gD]at h;omega
def Nh(t:Tr):1<=(encTr t).length:=by cases t;simp[encTr]
def BB(l:aE):l.length<=(encTrs l).length:=by
 induction l with
 | nil=>simp
 | cons t ts a=>have:=Nh t;simp[encTrs];omega
def IJ(k:Int)(a:0<=k)(b:k<=255):k=(k.toNat.toUInt8).toNat:=by rw[show k.toNat.toUInt8.toNat=k.toNat % 256 from rfl,je5 od];omega
def nJ.mk{B:Nat}{w w':cg}{b v':cm}{l a:bw}(e:om B w' v' a)(c:Gr w b w' v')(d:a=l):nJ B w b l (.returned v') w':=by subst d;exact⟨v',rfl,e,c⟩
def H5{B:Nat}{Y:cg}{t:Tr}{v:cm}(P:B<=Y.heap.size)(hL:bI (· < B) Y t v):∀d,bC d t=0->VU B Y v t:=by
 induction hL with
 | @mk k n p s args a c _ V Z hS ik iN ip S hr T =>
  intro d hf y M q G g j;have⟨hd,X,A⟩:=zP hf;have⟨hk,W,hm,hN,hs⟩:=CG X;have U:B<=q.heap.size:=xo P G.size;have C:some q.heap.size≠M.ownBlock:=λe=>by have:=(qb5 g _ e.symm).2;omega
  rcases (show k=0\/k=1\/k=2\/k=3 from by omega)with rfl|rfl|rfl|rfl
  .have H:encTr (.nd 0 n p s args)=(0:Int).toNat.toUInt8::pE n:=by simp[encTr]
   rw[H]at j|-;unfold af;have O:=jh (IJ 0 od od);have HO:=jh g;simp only[js]at j;clear hf X A hm S hr T G g H hk W;generalize (0:Int).toNat.toUInt8=u at *;go_enter func248,ntmps248;go_wp2_with (first
    | (at_builtin;refine app1 B y u _ (q.alloc (.cells #[.i 0,.i n,.i p,.string s,.slice a args.length c] 62)) M rfl _ _ rfl rfl rfl oe O (qg4 HO _) ov od ?_;intro R N b f;have⟨b0,b1,b2,b3,b4⟩:=bE ((f.block (k:=q.heap.size) oe C).trans (xF _ _));have x:=f.1.size;have r:=jh b;have m:=jh f;clear b f))
   simp at x;refine (qf B n iN od R (y++[u]) N r od ov).mono ?_;rintro e w3 ⟨v3,rfl,I,l⟩;have E:=jh I;have z:=jh l;clear I l;go_wp2;go_ret;exact nJ.mk E (((Gr.refl _ _).alloc _).trans (m.trans z)) oe
  .have H:encTr (.nd 1 n p s args)=(1:Int).toNat.toUInt8::(pE s.size++s.data.toList):=by simp[encTr]
   rw[H]at j|-;unfold af;simp only[js,jx]at j;have O:=jh (IJ 1 od od);have HO:=jh g;clear hf X A hm S hr T G g H hk W;generalize (1:Int).toNat.toUInt8=u at *;go_enter func248,ntmps248;go_wp2_with (first
    | (at_builtin;refine app1 B y u _ (q.alloc (.cells #[.i 1,.i n,.i p,.string s,.slice a args.length c] 62)) M rfl (.tmp 5) _ rfl rfl rfl oe O (qg4 HO _) ov od ?_;intro R N b f;have⟨b0,b1,b2,b3,b4⟩:=bE ((f.block (k:=q.heap.size) oe C).trans (xF _ _));have x:=f.1.size;simp at x;have r:=jh b;have m:=jh f;clear b f))
   have HN:=jh (λw'=>qf B s.size ⟨od,od⟩ od R (y++[u]) w');go_region_law (first
    | (refine Ai B (y++[u]++pE s.size) s _ v3 rfl (.tmp 25) (.tmp 27) rfl rfl rfl E UP UP od ?_;intro v4 w4 L o;have F:=jh L;have D:=jh o;clear L o)
    | (go_simp;go_at_call 254;refine (HN N.drew r.drew ov ov).mono ?_;rintro e w3 ⟨v3,rfl,I,l⟩;have w:=m.out.trans l.QY;have⟨e0,e1,e2,e3,e4⟩:=bE ((w.block (k:=q.heap.size) oe C).trans (xF _ _));have ad:=l.1.size;simp at ad;have E:=jh I;have z:=jh w;clear I l w))
   all_goals
    go_wp2;go_ret;exact nJ.mk F (((Gr.refl _ _).alloc _).trans (z.trans D)) oe
  .have H:encTr (.nd 2 n p s args)=(2:Int).toNat.toUInt8::p.toNat.toUInt8::(pE args.length++encTrs args):=by simp[encTr]
   rw[H]at j|-;unfold af;have⟨ae,ah⟩:=BS (W rfl);have ab:=BB args;simp only[js,jx]at j;have⟨O,aa,HO,HA,HB⟩:=wb (IJ 2 od od) (IJ p od od) g (λy M q G ho Z=>BZ (c:=c) V P S (λi h=>T i h (d+1) (rJ A _ (yy h))) y M q G ho Z od) G;clear hf X A hm S hr T G g H hk W;generalize (2:Int).toNat.toUInt8=u at *;generalize p.toNat.toUInt8=u2 at *;go_enter func248,ntmps248;go_wp2_with (first
    | (at_builtin;refine app1 B y u _ (q.alloc (.cells #[.i 2,.i n,.i p,.string s,.slice a args.length c] 62)) M rfl (.tmp 5) _ rfl rfl rfl oe O (qg4 HO _) ov od ?_;intro R N b f;have⟨b0,b1,b2,b3,b4⟩:=bE ((f.block (k:=q.heap.size) oe C).trans (xF _ _));have x:=f.1.size;simp at x;have r:=jh b;have m:=jh f;clear b f)
    | (at_builtin;refine app1 B (y++[u]) u2 _ N R rfl (.tmp 31) _ rfl rfl rfl oe aa r od ov ?_;intro v3 w3 K l;have w:=m.out.trans l;have⟨e0,e1,e2,e3,e4⟩:=bE ((w.block (k:=q.heap.size) oe C).trans (xF _ _));have E:=jh K;have z:=jh w;clear K l w))
   have Q:Below B Y w3:=(HB.out.alloc U _).trans (z.below (qg4 HO _) ov);refine (HA (y++[u]++[u2]) v3 w3 Q E UP).mono ?_;rintro e w4 ⟨v4,rfl,J,o⟩;have F:=jh J;have D:=jh o;clear J o;go_wp2;go_ret;exact nJ.mk F (((Gr.refl _ _).alloc _).trans (z.trans D)) oe
  .have H:encTr (.nd 3 n p s args)=(3:Int).toNat.toUInt8::(pE args.length++encTrs args):=by simp[encTr]
   rw[H]at j|-;unfold af;have ab:=BB args;simp only[js,jx]at j;have⟨O,HO,HA,HB⟩:=we (IJ 3 od od) g (λy M q G ho Z=>BZ (c:=c) V P S (λi h=>T i h (d+1) (rJ A _ (yy h))) y M q G ho Z od) G;clear hf X A hm S hr T G g H hk W;generalize (3:Int).toNat.toUInt8=u at *;go_enter func248,ntmps248;go_wp2_with (first
    | (at_builtin;refine app1 B y u _ (q.alloc (.cells #[.i 3,.i n,.i p,.string s,.slice a args.length c] 62)) M rfl (.tmp 5) _ rfl rfl rfl oe O (qg4 HO _) ov od ?_;intro R N b f;have⟨b0,b1,b2,b3,b4⟩:=bE ((f.block (k:=q.heap.size) oe C).trans (xF _ _));have x:=f.1.size;simp at x;have r:=jh b;have m:=jh f;clear b f))
   have Q:Below B Y N:=(HB.out.alloc U _).trans (m.below (qg4 HO _) ov);refine (HA (y++[u]) R N Q r UP).mono ?_;rintro e w4 ⟨v4,rfl,J,o⟩;have F:=jh J;have D:=jh o;clear J o;go_wp2;go_ret;exact nJ.mk F (((Gr.refl _ _).alloc _).trans (m.trans D)) oe
def aeH{B:Nat}{w:cg}{v:cm}{l:bw}(h:om B w v l):(convert 273 9 v).run prog w =.ok (.string ⟨l.toArray⟩) w:=by
 have b:=h;unfold om at b;rcases b.2 with⟨rfl,h0⟩|⟨g,a,d,rfl,e,n,m,f,i,c⟩
 .have : l=[]:=jz h0;subst this;exact run_convert_bytes_nil w 273 5 underlying273 underlying5 0 0 9 underlying9
 .refine run_convert_bytes_back w 273 9 5 ⟨g,0,none⟩ a l underlying273 underlying5 underlying9 λj k=>?_;exact qd7 b (g:=g) rfl j _ (by simp[cs,qu k])
mutual
def tX(d:Nat):∀t,bC d t=0->t.size<=1000000->(encTr t).length<=215*t.size
 | .nd k n p s a,h,l=>by
  have⟨u,j,b⟩:=zP h;have⟨hk,v,hm,r,w⟩:=CG j;rw[Tr.size]at l;have x:=xy (d+1) a b od;have i:=cB a;have m:=xx n ⟨od,od⟩;have o:=xx s.size ⟨od,od⟩;have q:=xx a.length ⟨od,od⟩;have c:s.data.toList.length=s.size:=oe
  rw[encTr,Tr.size]
  by_cases e:k=0
  .rw[if_pos e];simp;omega
  rw[if_neg e]
  by_cases f:k=1
  .rw[if_pos f];simp only[js,jx,c];omega
  rw[if_neg f]
  by_cases g:k=2
  .rw[if_pos g];simp only[js,jx];omega
  .rw[if_neg g];simp only[js,jx];omega
def xy(d:Nat):∀ts,bG d ts=0->sizes ts<=1000000->(encTrs ts).length<=215*sizes ts
 | [],_,_=>by simp[encTrs]
 | t::ts,h,c=>by
  rw[sizes]at c;have e:=tX d t (rJ h t oe) od;have b:bG d ts=0:=by
   rw[bG]at h
   by_cases a:bC d t=0
   .rwa [if_neg (by simpa using a)]at h
   .rw[if_pos a]at h;exact absurd h a
  have f:=xy d ts b od;rw[encTrs,sizes,jx];omega
end
def iV{t:Tr}(h:dS t=0):bC 1 t=0/\t.size<=300:=by
 unfold dS at h
 by_cases a:bC 1 t=0
 .rw[if_neg (by simpa using a)]at h
  by_cases b:300<t.size
  .rw[if_pos b]at h;omega
  .exact⟨a,od⟩
 .rw[if_pos a]at h;exact absurd h a
def Ju{w:cg}{t:Tr}{v:cm}(z:bI (· < w.heap.size) w t v)(B:dS t=0) :
 Calls prog 241 #[v] w λe w'=>e =.returned (.tuple #[.string ⟨(encTr t).toArray⟩,.i 0])/\cq w w' none:=by
 have⟨y,H⟩:=iV B;have q:=tX 1 t y od;have u:∃k n p s a l c,v=af k n p s a l c:=by cases z;exact⟨_,_,_,_,_,_,_,rfl⟩
 have⟨k,n,p,s,a,l,c,u⟩:=u;have d:∀o,bI (· < (w.alloc o).heap.size) (w.alloc o) t v:=λo=>(z.same (w':=w.alloc o) (λb _ f _=>World.cell?_alloc_lt _ _ _ f)).ae (λb _ f=>by simp;have : b<w.heap.size:=f;omega);have j:=Bj (d (.cells #[.i k,.i n,.i p,.string s,.slice a l c] 62)) od;have r:∀w',(w.alloc (.cells #[.i k,.i n,.i p,.string s,.slice a l c] 62)).grownBy w' none->Calls prog 248 #[.n0,v] w' (nJ w'.heap.size w' (.n0) (encTr t)):=by intro w' C;have I:Same (· < (w.alloc (.cells #[.i k,.i n,.i p,.string s,.slice a l c] 62)).heap.size) (w.alloc (.cells #[.i k,.i n,.i p,.string s,.slice a l c] 62)) w':=λb o f _=>Lf.Qr C b o f;have A:=((d _).same I).ae (ok':=(· < w'.heap.size)) (λb f _=>f);exact H5 (jj _) A 1 y [] (.n0) w' (Below.refl _ _) (jd5 _ _ _ _) ov
 rw[B]at j;rw[u]at j r|-;unfold af at j r|-;have F:=jh j;have G:=jh r;clear j r z d u B y H q;generalize encTr t=O at *;go_enter func241,ntmps241;go_wp2_with fail;refine F.mono ?_;rintro e Q ⟨rfl,g⟩;have⟨J,K,L,M,N⟩:=bE ((g.block w.heap.size oe oe).trans (xF _ _));have h:=jh g;clear g;go_wp2_with fail;refine (G _ h).mono ?_;rintro e R ⟨P,rfl,D,m⟩;have E:=aeH D;have x:=jh m.1;clear D m;go_wp2_with fail;go_ret2;refine⟨rfl,Lf.Zt (Lf.gb _) (Lf.Zt h ?_)⟩;exact x
def Ni{w:cg}{t:Tr}{v:cm}(m:bI (· < w.heap.size) w t v)(y:t.size<=4611686018427387904 - 1)(u:dS t≠0) :
 Calls prog 241 #[v] w λe w'=>e =.returned (.tuple #[.string ⟨#[]⟩,.i (dS t)])/\cq w w' none:=by
 have h:∃k n p s a l c,v=af k n p s a l c:=by cases m;exact⟨_,_,_,_,_,_,_,rfl⟩
 have⟨k,n,p,s,a,l,c,h⟩:=h;have d:∀o,bI (· < (w.alloc o).heap.size) (w.alloc o) t v:=λo=>(m.same (w':=w.alloc o) (λb _ q _=>World.cell?_alloc_lt _ _ _ q)).ae (λb _ q=>by simp;have : b<w.heap.size:=q;omega);have g:=Bj (d (.cells #[.i k,.i n,.i p,.string s,.slice a l c] 62)) od;rw[h]at g|-;unfold af at g|-;have r:=jh g;clear g m d h;generalize dS t=x at *;go_enter func241,ntmps241;go_wp2_with fail;refine r.mono ?_;rintro e z ⟨rfl,f⟩;have j:=jh f;clear f;go_wp2_with fail;go_ret2;exact⟨rfl,Lf.Zt (Lf.gb _) j⟩
open Pe
def gM (C:List (Ty×Va)):List bd:=C.map λp=>tyD p.1++vaD p.2
abbrev aat (C:List (Ty×Va)):A1:=.one (.d (.s 9 (gM C)))
def nL(C:List (Ty×Va)):(gM C).length=C.length:=by simp[gM]
def KA(C:List (Ty×Va)):jl (gM C):=by simp only[jl,gM,List.all_map,kd,Function.comp];rintro⟨T,x⟩ _ y b;have⟨t,a⟩:=T;have⟨k,n,i,s,r,u,c⟩:=x;simp only[tyD,vaD,qd2,qe5,kl,qf2,or_false]at b;rcases b with rfl|rfl|rfl|rfl|rfl|rfl|rfl|rfl|rfl<;>rfl
def ofA:Option (List (Ty×Va))->AV
 | some C=>.rz [aat C,bA true]
 | none=>.rz [nilA,bA false]
def Pe.Holds.ac8{f:FuncId}{args:List A1}(h:Hd ⟨f,args,.rz [nilA,bA true]⟩):Hd ⟨f,args,ofA (some [])⟩:=h.conv (λ_ _ _ h=>h) λok w v h=>by
 have⟨d,e,c⟩:=h
 match d,c with
 | [u,v],⟨a,b,_⟩=>exact⟨_,e,gG (show fI ok w (.s 0 []) u from a),b,trivial⟩
def XT (l:ao) (m:Nat) (x:Va):Prop:=Bp 7 7 (vasD l) m=some (.of (.one (.e (vaD x) 0)))
def PT{l:ao}{m:Nat}{x:Va}(h:l[m]?=some x):XT l m x:=by unfold XT Bp;rw[vasD_map,qb0,h];cases x;rfl
def oeS (k:Nat) (l:ao) (ts:aw) (j:Nat):St:=[((0,1),.of (dZ ts)),((0,6),.of (.one (.g k 9 j))),((k+1,0),.kv 81 9 (gM ((ts.zip l).take j))),((0,17),.of (qi l)),((0,18),lW (vasD l).length),((0,19),.of (jA j))]
abbrev oeQ (k n:Nat) (C:List (Ty×Va)):St:=[((0,6),.of (.one (.g k 9 n))),((k+1,0),.kv 81 9 (gM C))]
section
variable {l:ao}{ts:aw}
def abA(w:l.length=ts.length)(M:l.length<=20000000){j k ex:Nat}{post:St}(hk:k=3000016\/k=3000032)(C:j<l.length)
 (hn:vO prog f63.ntmps ⟨gF f63,oeS 3000032 l ts (j+1),ex,post⟩):vO prog f63.ntmps ⟨gF f63,oeS k l ts j,ex,post⟩:=by
 have D:j<ts.length:=od
 have⟨t,a,B⟩:∃t a,ts[j] =.nd t a:=by cases ts[j];exact⟨_,_,rfl⟩
 have⟨g,h,f,q,o,p,c,A⟩:∃k n i z r t d,l[j] =.mk k n i z r t d:=by cases l[j];exact⟨_,_,_,_,_,_,_,rfl⟩
 have F:(ts.zip l).length=l.length:=ov
 have v:gM ((ts.zip l).take (j+1))=gM ((ts.zip l).take j)++[tyD (.nd t a)++vaD (.mk g h f q o p c)]:=by rw[jc0 od,List.getElem_zip,B,A];simp[gM]
 have u:(gM ((ts.zip l).take j)).length=j:=by rw[nL,qc1];exact jc6 od
 have G:=is_lt (a:=Int.ofNat j) (b:=((vasD l).length:Int)) oX;have H:=PT (l:=l) (m:=j) (x:=.mk g h f q o p c) (by rw[qu C,A]);have I:=EK (s:=ts) (m:=j) (t:=t) (a:=a) (by rw[qu D,B]);have J:mD (lW (IntKind.i64.wrap (Int.ofNat j+1))) (jA (j+1)):=yY Zs;have K:rowsLe ((gM ((ts.zip l).take j)).take j++[tyD (.nd t a)++vaD (.mk g h f q o p c)]) (gM ((ts.zip l).take (j+1))):=by rw[v,ux od];exact rows_refl _
 have L:=iL (y:=144) (l:=j) (es:=gM ((ts.zip l).take j)) (rows:=[tyD (.nd t a)++vaD (.mk g h f q o p c)]) od oe (KA [(.nd t a,.mk g h f q o p c)]) ov ot;have E:=al G (al H (al I (al K (al L (al J al0)))));clear v u;rcases hk with rfl|rfl<;>exact LG [(20,bA true),(22,.one (.e (vaD (.mk g h f q o p c)) 0)),(27,.one (.e (tyD (.nd t a)) 0)),(2000032,aat ((ts.zip l).take (j+1))),(33,jA (j+1))] [] hn E
def Qv(a:l.length=ts.length)(b:l.length<=20000000):∀(i j:Nat),j+i=l.length->vO prog f63.ntmps ⟨gF f63,oeS 3000032 l ts j,2,oeQ 3000032 l.length (ts.zip l)⟩
 | 0,j,c=>by
  obtain rfl:j=l.length:=od
  have h:vO prog f63.ntmps ⟨gF f63,oeS 3000032 l ts l.length,2,oeQ 3000032 l.length ((ts.zip l).take l.length)⟩:=xQ (e:=1) [(20,bA false)] [] (ob:=[mD (aQ (decide (Int.ofNat l.length<((vasD l).length:Int)))) (bA false)]) (al (wH (by rw[qY];simp)) al0);rwa [ux (show (ts.zip l).length<=l.length by simp;omega)]at h
 | i+1,j,c=>abA a b (.inr rfl) od (Qv a b i (j+1) od)
def Fs{n:Nat}(hn:n=2\/ts=[])(c:l.length<=20000000):Hd ⟨63,[qi l,.one (.d (.s n (tysD ts)))],ofA (if l.length=ts.length then some (ts.zip l)else none)⟩:=by
 by_cases a:l.length=ts.length
 .rw[if_pos a];have j:jJ (!decide (((vasD l).length:Int)=((tysD ts).length:Int))) false:=eT (by rw[qY,eY];simp[a]);rcases l with _|⟨y,l⟩
  .obtain rfl:ts=[]:=jz (by simpa using a.symm);have g:vO prog f63.ntmps ⟨gF f63,[((0,6),.of nilA),((0,18),lW 0),((0,19),.of (jA 0))],2,[((0,6),.of nilA)]⟩:=xQ (e:=1) [] [] (ob:=[]) al0;have : Hd ⟨63,[qi [],.one (.d (.s n (tysD [])))],.rz [nilA,bA true]⟩:=Ce func63 [] [_] (by intro x b;rw[qv]at b;subst b;exact g) [⟨_,Hz gK⟩] (wI (S:=[((0,6),.of nilA),((0,18),lW 0),((0,19),.of (jA 0))]) (q:=gF f63=gF f63) rfl (ps:=[]) al0);exact this.ac8
  .obtain rfl:n=2:=hn.resolve_right (λh=>by rw[h]at a;simp at a);have f:=Hl gK (n:=(vasD (y::l)).length) (by simp[vasD]) Up;have i:=abA (ts:=ts) (k:=3000016) a c (.inl rfl) oe (Qv a c l.length 1 ov);exact Ce func63 [(13,fA)] [_] (by intro x b;rw[qv]at b;subst b;exact i) [⟨_,f⟩] (jX (wI (S:=oeS 3000016 (y::l) ts 0) (q:=gF f63=gF f63) rfl (ps:=[jJ (!decide (((vasD (y::l)).length:Int)=((tysD ts).length:Int))) false]) (al j al0)) (r:=[(y::l).length=(gM (ts.zip (y::l))).length]) (al (by rw[nL];simp;simp at a;omega) al0))
 .rw[if_neg a];exact runT func63 [(13,bA true)] [] (ob:=[jJ (!decide (((vasD l).length:Int)=((tysD ts).length:Int))) true]) (al (eT (by rw[qY,eY];simp;omega)) al0)
def Z7{T:Ty}(d:okT T):Hd ⟨64,[qi l,tyA T],ofA (if l.length<=24 then some ((List.replicate l.length T).zip l)else none)⟩:=by
 by_cases h:l.length<=24
 .rw[if_pos h];have e:=qY l;have c:=Jr (T:=T) (n:=(vasD l).length) d od;have b:=Fs (l:=l) (ts:=List.replicate (vasD l).length T) (n:=2) (.inl rfl) od;rw[if_pos (by simp[e])]at b;rw[<-e];obtain⟨t,a⟩:=T;exact runT func64 [(8,fA)] [⟨_,c⟩,⟨_,b⟩] (ob:=[jJ (decide ((24:Int)<((vasD l).length:Int))) false]) (al (eT (zE od)) al0)
 .rw[if_neg h];obtain⟨t,a⟩:=T;exact runT func64 [(8,bA true)] [] (ob:=[jJ (decide ((24:Int)<((vasD l).length:Int))) true]) (al (eT (xb Up)) al0)
end
structure IQ (T:Ty) (x:Va):Prop where
 len:(T.args.length:Int)=bT T.t
 side:T.t=12->x.n=0\/x.n=1
def Vr{T:Ty}{x:Va}(z:okT T)(v:IQ T x)(I:x.size<=20000000):Hd ⟨45,[tyA T,pF x],ofA (partsOf T x)⟩:=by
 have E:=kS x.args;have H:=eP x;have⟨len,side⟩:=v;have d:=λ{ts:aw} {n:Nat} F=>Fs (l:=x.args) (ts:=ts) (n:=n) F od;have f:=λ{T:Ty} h=>Z7 (l:=x.args) (T:=T) h;have r:∀{a b:Int},a≠b->jJ (decide (a=b)) false:=λh=>eT (zE h);unfold partsOf bS;simp only[]
 by_cases u:T.t=8
 .have d:=d (ts:=x.types) (n:=2) (.inl rfl);rw[if_pos u];split<;>rename_i c<;>first|rw[if_pos c]at d|rw[if_neg c]at d
  all_goals
   have⟨t,e⟩:=T;have⟨k,n,a,s,args,types,code⟩:=x;obtain rfl:t=8:=u;exact aF func45 [⟨_,d⟩]
 rw[if_neg u]
 by_cases q:T.t=9/\x.args.length=0
 .rw[if_pos q];have⟨t,e⟩:=T;have⟨k,n,a,s,args,types,code⟩:=x;have⟨q,h0⟩:=q;obtain rfl:t=9:=q;obtain rfl:args=[]:=jz h0;exact Holds.ac8 (aF func45 [])
 rw[if_neg q]
 by_cases g:T.t=10
 .rw[if_pos g];have⟨t,e⟩:=T;obtain rfl:t=10:=g;obtain⟨A,rfl⟩:∃A,e=[A]:=ja6.1 (show e.length=1 by simp[bT,Ty.t,Ty.args]at len;omega);have f:=f (T:=A) z.2.1;split<;>rename_i c<;>first|rw[if_pos c]at f|rw[if_neg c]at f
  all_goals
   have⟨y,w⟩:=A;have⟨k,n,a,s,args,types,code⟩:=x;exact aF func45 [⟨_,f⟩]
 rw[if_neg g]
 by_cases m:T.t=13
 .rw[if_pos m];have f:=f (T:=.nd 11 T.args) (by have⟨t,e⟩:=T;exact⟨⟨ot,ot⟩,z.2⟩);split<;>rename_i c<;>first|rw[if_pos c]at f|rw[if_neg c]at f
  all_goals
   have⟨t,e⟩:=T;have⟨k,n,a,s,args,types,code⟩:=x;obtain rfl:t=13:=m;exact aF func45 [⟨_,f⟩]
 rw[if_neg m]
 by_cases j:T.t=12
 .rw[if_pos j];have⟨t,e⟩:=T;obtain rfl:t=12:=j;obtain⟨A,B,rfl⟩:∃A B,e=[A,B]:=by
   have : e.length=2:=by simp[bT,Ty.t,Ty.args]at len;omega
   match e,this with|[A,B],_=>exact⟨A,B,rfl⟩
  have d:=λC=>d (ts:=[C]) (n:=2) (.inl rfl);have⟨y,w⟩:=A;have⟨Bt,D⟩:=B;split<;>rename_i c
  all_goals
   first|simp only[if_pos (show x.args.length=[_].length from c)]at d|simp only[if_neg (show ¬x.args.length=[_].length from c)]at d
   have⟨k,n,a,s,args,types,code⟩:=x;rcases (show n=0\/n=1 from side rfl)with rfl|rfl
   .have d:=d (.nd y w);exact aF func45 [⟨_,d⟩]
   .have d:=d (.nd Bt D);exact aF func45 [⟨_,d⟩]
 rw[if_neg j]
 by_cases o:T.t=14
 .have d:=d (ts:=[]) (n:=0) (.inr rfl);rw[if_pos o];split<;>rename_i c<;>first|rw[if_pos (show x.args.length=[].length from c)]at d|rw[if_neg (show ¬x.args.length=[].length from c)]at d
  all_goals
   have⟨t,e⟩:=T;have⟨k,n,a,s,args,types,code⟩:=x;obtain rfl:t=14:=o;exact aF func45 [⟨_,d⟩]
 rw[if_neg o];have d:=d (ts:=T.args) (n:=2) (.inl rfl);have i:T.t=9->jJ (decide (((vasD x.args).length:Int)=0)) false:=λh=>eT (zE (by rw[qY];simp only[h,true_and]at q;omega))
 by_cases p:T.t=9
 .replace i:=i p;split<;>rename_i c<;>first|rw[if_pos c]at d|rw[if_neg c]at d
  all_goals
   have⟨t,e⟩:=T;have⟨k,n,a,s,args,types,code⟩:=x;obtain rfl:t=9:=p;exact runT func45 [(22,fA)] [⟨_,d⟩] (al i al0)
 have G:=al (r u) (al (r p) (al (r g) (al (r m) (al (r j) (al (r o) al0)))));split<;>rename_i c<;>first|rw[if_pos c]at d|rw[if_neg c]at d
 all_goals
  have⟨t,e⟩:=T;have⟨k,n,a,s,args,types,code⟩:=x;exact runT func45 [(9,fA),(18,fA),(24,fA),(35,fA),(45,fA),(59,fA)] [⟨_,d⟩] G
def aba(n:Int):Hd ⟨87,[iA n],aQ (kE n)⟩:=by
 by_cases h:-1152921504606846976<=n
 .rw[show kE n=decide (n<=1152921504606846976) by simp[kE,h]];exact runT func87 [(4,bA true)] [] (al (is_le h) al0)
 .rw[show kE n=false by simp[kE,h]];exact runT func87 [(4,bA false)] [] (al (QA h) al0)
def U6(n:Int):Hd ⟨88,[iA n],aQ (gN n)⟩:=by
 by_cases h:0<=n
 .rw[show gN n=kE n by simp only[gN,kE,qg7];omega];exact runT func88 [(4,bA true)] [⟨_,aba n⟩] (al (is_le h) al0)
 .rw[show gN n=false by simp[gN,h]];exact runT func88 [(4,bA false)] [] (al (QA h) al0)
def Y0(n:Int):Hd ⟨61,[iA n],aQ (lY n)⟩:=by
 by_cases h:0<=n
 .rw[show lY n=decide (n<12) by simp[lY,h]];exact runT func61 [(4,bA true)] [] (al (is_le h) al0)
 .rw[show lY n=false by simp[lY,h]];exact runT func61 [(4,bA false)] [] (al (QA h) al0)
def WG(n:Int):Hd ⟨60,[iA n],aQ (decide (n=8\/n=15))⟩:=by
 by_cases h:n=8
 .subst h;exact aF func60 []
 .rw[show decide (n=8\/n=15)=decide (n=15) by simp[h]];exact runT func60 [(4,bA false)] [] (al (show nq n 8 from oL h) al0)
def SL(t n:Int):Hd ⟨59,[iA t,iA n],aQ (bQ t n)⟩:=by
 have d:=aba n;have a:=U6 n;have e:=Y0 n
 by_cases c:t=2\/t=12\/t=3\/t=4\/t=5\/t=8\/t=15\/t=7
 .by_cases b:t=2\/t=12
  .rw[show bQ t n=decide (n=0\/n=1) from if_pos b]
   by_cases h:n=0
   .subst h;rcases b with rfl|rfl<;>exact aF func59 []
   .rw[show decide (n=0\/n=1)=decide (n=1) by simp[h]];rcases b with rfl|rfl<;>exact runT func59 [(10,bA false)] [] (al (show nq n 0 from oL h) al0)
  .rcases c with rfl|rfl|rfl|rfl|rfl|rfl|rfl|rfl
   .omega
   .omega
   .exact aF func59 [⟨_,d⟩]
   .exact aF func59 [⟨_,a⟩]
   .exact aF func59 [⟨_,a⟩]
   .exact aF func59 [⟨_,a⟩]
   .rw[show bQ 15 n=(gN n && !decide (n=0)) by rw[aaA];simp];cases f:gN n<;>rw[f]at a<;>exact aF func59 [⟨_,a⟩]
   .exact aF func59 [⟨_,e⟩]
 .rw[show bQ t n=decide (n=0) by unfold bQ;rw[oa,oa,oa,oa,oa]];exact runT func59 [(7,bA false),(8,bA false),(16,bA false),(20,bA false),(21,bA false),(22,bA false),(26,bA false),(34,bA false)] [] (al (show nq t 2 from oL od) (al (show nq t 12 from oL od) (al (show nq t 3 from oL od) (al (show nq t 4 from oL od) (al (show nq t 5 from oL od) (al (show nq t 8 from oL od) (al (show nq t 15 from oL od) (al (show nq t 7 from oL od) al0))))))))
abbrev eqN (S:St) (ex:Nat) (q:St):Prop:=vO prog f42.ntmps ⟨gF f42,S,ex,q⟩
def XI (x y:aw) (j:Nat):St:=[((0,1),.of (dZ y)),((0,2),.of (.one (Ey 28))),((0,15),.of (dZ x)),((0,16),lW (tysD x).length),((0,17),.of (jA j))]
def XJ{x y:aw}(A:tysizes x<=50000000)(w:x.length=y.length):∀(l m:aw) (j:Nat),x.drop j=l->y.drop j=m->(sameTs l m->eqN (XI x y j) 2 [])/\(sameTs l m=false->eqN (XI x y j) 1 [((0,6),aQ false)])
 | [],m,j,c,hm=>by
  have f:x.length<=j:=by have:=congrArg List.length c;simp at this;omega
  have h0:m=[]:=by rw[<-hm];exact qb6 od
  subst h0;exact⟨λ_=>xQ (e:=1) [(18,bA false)] [] (al (show mD (aQ (decide (Int.ofNat j<((tysD x).length:Int)))) (bA false) from wH Ok) al0),λh=>by simp[sameTs]at h⟩
 | T::l,[],j,c,hm=>by have p:=congrArg List.length c;have r:=congrArg List.length hm;simp at p r;omega
 | .nd t a::l,.nd u b::m,j,c,hm=>by
  have f:j<x.length:=qb4 λh=>by rw[qb6 od]at c;cases c
  have i:x[j]?=some (.nd t a):=by rw[km f]at c;rw[qu f];exact congrArg some (qe3 c).1
  have s:y[j]?=some (.nd u b):=by rw[km od]at hm;rw[qu od];exact congrArg some (qe3 hm).1
  have v:x.drop (j+1)=l:=by rw[km f]at c;exact (qe3 c).2
  have g:y.drop (j+1)=m:=by rw[km od]at hm;exact (qe3 hm).2
  have z:=len_le x;have hF:=BR (T:=.nd t a) (U:=.nd u b) (by have:=jS (ka i);omega);have n:mD (aQ (decide (Int.ofNat j<((tysD x).length:Int)))) (bA true):=is_lt Ok;have o:=EK i;have d:=EK s;have B:mD (lW (IntKind.i64.wrap (Int.ofNat j+1))) (jA (j+1)):=yY (zF oe ov ov);have e:sameTs (.nd t a::l) (.nd u b::m)=(sameT (.nd t a) (.nd u b)&&sameTs l m):=by simp[sameTs]
  rw[e]
  cases k:sameT (.nd t a) (.nd u b)with
  | false =>
   rw[k]at hF;exact⟨λh=>by simp at h,λ_=>xQ (e:=0) [(18,bA true),(20,.one (.e (tyD (.nd t a)) 0)),(24,.one (.e (tyD (.nd u b)) 0))] [⟨_,hF⟩] (al n (al o (al d al0)))⟩
  | true =>
   rw[k]at hF;have⟨g1,g2⟩:=XJ A w l m (j+1) v g;have F:=λ{ex:Nat} {q:St} (h:eqN (XI x y (j+1)) ex q)=>(LG [(18,bA true),(20,.one (.e (tyD (.nd t a)) 0)),(24,.one (.e (tyD (.nd u b)) 0)),(31,jA (j+1))] [⟨_,hF⟩] h (al n (al o (al d (al B al0)))):eqN (XI x y j) ex q);rw[qa7];exact⟨λh=>F (g1 h),λh=>F (g2 h)⟩
def YZ{x y:aw}(g:tysizes x<=50000000):Hd ⟨42,[dZ x,dZ y,.one (Ey 28)],aQ (sameTs x y)⟩:=by
 by_cases b:x.length=y.length
 .have⟨e,f⟩:=XJ g b x y 0 rfl rfl;have i:jJ (!decide (((tysD x).length:Int)=((tysD y).length:Int))) false:=eT (by simp[eY,b]);have d:=wI (S:=XI x y 0) (q:=gF f42=gF f42) rfl (ps:=[jJ (!decide (((tysD x).length:Int)=((tysD y).length:Int))) false]) (al i al0)
  cases c:sameTs x y with
  | true=>exact Ce func42 [(14,bA false)] [_] (λx a=>by rw[qv]at a;subst a;exact e c) [] d
  | false=>exact Ce func42 [(14,bA false)] [_] (λx a=>by rw[qv]at a;subst a;exact f c) [] d
 .rw[show sameTs x y=false by
   cases h:sameTs x y with
   | false=>rfl
   | true=>exact absurd (sameTs_len h) b]
  exact runT func42 [(14,bA true)] [] (al (show jJ (!decide (((tysD x).length:Int)=((tysD y).length:Int))) true from eT Ok) al0)
def SQ{T:Ty}{l:aw}(g:okT T)(e:okTs l)(f:tysizes l<=50000000):Hd ⟨62,[tyA T,dZ l],aQ (eZ T l)⟩:=by
 have⟨t,a⟩:=T;unfold eZ
 by_cases d:t=8
 .subst d;rw[if_pos (show (Ty.nd 8 a).t=8 from rfl)]
  match l,e with
  | [],_=>exact aF func62 []
  | [.nd u b],e =>
   rw[show oneGood [.nd u b]=ai (.nd u b) from rfl];exact aF func62 [⟨_,Cb e.1⟩]
  | x::y::l,_ =>
   rw[J3 oe];exact runT func62 [(11,bA false)] [] (al (show jJ (decide (((tysD (x::y::l)).length:Int)=1)) false from eT Ok) al0)
 .rw[if_neg (show ¬(Ty.nd t a).t=8 from d)]
  by_cases c:t=14
  .subst c;rw[if_pos (show (Ty.nd 14 a).t=14 from rfl)];exact aF func62 [⟨_,YZ (y:=a) f⟩]
  .rw[if_neg (show ¬(Ty.nd t a).t=14 from c)];rw[show decide (l.length=0)=decide (((tysD l).length:Int)=0) by rw[eY,qg7];omega];exact runT func62 [(8,bA false),(19,bA false)] [] (al (show nq t 8 from oL d) (al (show nq t 14 from oL c) al0))
def Tn{T:Ty}{x:Va}(E:okT T)(H:okV x)(I:x.size<=20000000):Hd ⟨44,[tyA T,pF x],aQ (eX T x)⟩:=by
 have⟨t,q⟩:=T;have⟨k,n,a,s,J,r,m⟩:=x;have K:=SL t n;have L:=WG t;have M:=Y0 a;have N:=SQ (T:=.nd t q) (l:=r) E H.2.2.1 (by simp only[Va.size]at I;omega);have hF:eX (.nd t q) (.mk k n a s J r m)=(decide (k=t)&&bQ t n&&(decide (a=0)||decide (t=8\/t=15)&&lY a)&&(decide (s.size=0)||decide (t=6)&&decide (s.size<=200))&&eZ (.nd t q) r&&(decide (m.length=0)||decide (t=14))):=rfl;have w:decide (s.size=0)=(s.toList==([]:bw)):=by rw[jd1,jt,jg3];exact (Lf.Au s).symm
 have o:decide (m.length=0)=decide (((ndsD m).length:Int)=0):=by rw[ndsD_map,qc3,jd1,jt,jt];omega
 have y:decide (s.size<=200)=decide ((s.size:Int)<=200):=by rw[jd1,jt,jt];omega
 rw[hF,w,y,o];clear hF w y o E H I;generalize z:decide (k=t)=b;generalize bQ t n=d at *;generalize A:decide (a=0)=c;generalize decide (t=8\/t=15)=e at *;generalize lY a=g at *;generalize B:(s.toList==([]:bw))=f;generalize C:decide (t=6)=i;generalize D:decide ((s.size:Int)<=200)=j;generalize eZ (.nd t q) r=u at *;generalize F:decide (((ndsD m).length:Int)=0)=p;generalize G:decide (t=14)=v;refine runT func44 [(9,bA b),(20,bA c),(35,bA f),(39,bA i),(44,bA j),(58,bA p),(62,bA v)]
  (Xk [(b,⟨_,K⟩),(b&&d && !c,⟨_,L⟩),(b&&d && !c&&e,⟨_,M⟩),(b&&d&&(c||e&&g)&&(f||i&&j),⟨_,N⟩)])
  (ob:=Xk [(true,jJ (decide (k=t)) b),(b&&d,jJ (decide (a=0)) c),(b&&d&&(c||e&&g),jJ (s.toList==([]:bw)) f),(b&&d&&(c||e&&g) && !f,jJ (decide (t=6)) i),(b&&d&&(c||e&&g) && !f&&i,jJ (decide ((s.size:Int)<=200)) j),(b&&d&&(c||e&&g)&&(f||i&&j)&&u,jJ (decide (((ndsD m).length:Int)=0)) p),(b&&d&&(c||e&&g)&&(f||i&&j)&&u && !p,jJ (decide (t=14)) v)]) (h:=?_)
  (IM (eT z) (IM (eT A) (IM (eT B) (IM (eT C) (IM (eT D) (IM (eT F) (IM (eT G) al0)))))))
 clear z A B C D F G;cases b
 .kernel_rfl
 cases d
 .kernel_rfl
 cases c
 case' false =>
  cases e
  .kernel_rfl
  cases g
  .kernel_rfl
 all_goals
  cases f
  case' false =>
   cases i
   .kernel_rfl
   cases j
   .kernel_rfl
  all_goals
   cases u
   .kernel_rfl
   cases p
   case' false=>cases v
   all_goals kernel_rfl
section
variable {n:Nat}
def zt{es:List bd}(h:∀r∈es,r.length=n):es.flatten.length=es.length*n:=by
 induction es with
 | nil=>simp
 | cons a A c=>rw[jd7,jx,h a oe,c (λq b=>h q (by simp[b])),js,qg3];omega
def zl{t:bd}{j:Nat} : ∀{A:List bd},(∀r∈A,r.length=n)->chunk n (A.length+j) (A.flatten++t)=A++chunk n j t
 | [],_=>oe
 | a::A,h=>by have b:=h a oe;rw[js,show A.length+1+j=(A.length+j)+1 by omega,chunk,jd7,qa3,je1 b,List.drop_left' b,zl (λr c=>h r (by simp[c])),qd2]
def CL{es:List bd}(h:∀r∈es,r.length=n):chunk n es.length es.flatten=es:=by have:=zl (t:=[]) (j:=0) h;simpa[chunk]using this
def flat_chunk:∀(k:Nat) (l:bd),l.length=k*n->(chunk n k l).flatten=l/\∀r∈chunk n k l,r.length=n
 | 0,l,h=>by obtain rfl:l=[]:=jz od;exact⟨rfl,λr a=>by cases a⟩
 | k+1,l,h=>by
  rw[qg3]at h;have⟨b,c⟩:=flat_chunk k (l.drop n) ov;rw[chunk,jd7,b,qc6];refine⟨rfl,λr a=>?_⟩;rcases kl.1 a with rfl|a
  .simp;omega
  .exact c r a
def Lh{es:List bd}(h:∀r∈es,r.length=n){q:Nat}{ys:bd}(d:q+ys.length<=es.length*n):(fw n es q ys).flatten=es.flatten.take q++(ys++es.flatten.drop (q+ys.length))/\(fw n es q ys).length=es.length/\∀r∈fw n es q ys,r.length=n:=by have c:=zt h;have⟨a,b⟩:=flat_chunk (n:=n) es.length (es.flatten.take q++(ys++es.flatten.drop (q+ys.length))) (by simp only[jx,qc1,List.length_drop];omega);exact⟨a,nM _ _ _,b⟩
end
def vI{es A:List bd}{a b a' b':D}{m:Nat}(c:∀r∈es,r.length=2)(i:A.length=m)(h:es.take (m+1)=A++[[a,b]]) :
 dY es (m*2) 1=some [.d a]/\dY es (m*2+1) 1=some [.d b]/\m+1<=es.length /\
 (fw 2 (fw 2 es (m*2) [a']) (m*2+1) [b']).take (m+1)=A++[[a',b']]/\(fw 2 (fw 2 es (m*2) [a']) (m*2+1) [b']).length=es.length/\(fw 2 es (m*2) [a']).length=es.length:=by
 have e:m+1<=es.length:=by have:=congrArg List.length h;simp at this;omega
 have hA2:∀r∈A,r.length=2:=λr v=>c r (qe6 (by rw[h];simp[v]));have hf:=zt hA2;rw[i]at hf;have⟨R,j⟩:∃R,es.flatten=A.flatten++(a::b::R):=⟨(es.drop (m+1)).flatten,by
  conv=>lhs;rw[<-qc6 (m+1) es,h]
  simp⟩
 have u:=zt c;have⟨g,f,w⟩:=Lh c (q:=m*2) (ys:=[a']) ov;have⟨l,k,o⟩:=Lh w (q:=m*2+1) (ys:=[b']) (by rw[f];simp;omega);have x:es.flatten.take (m*2)=A.flatten:=by rw[j,<-hf,List.take_left]
 have p:es.flatten.drop (m*2+1)=b::R:=by rw[j,<-hf,<-List.drop_drop,List.drop_left];rfl
 simp only[qe7]at g l;rw[x,p]at g;have n:(fw 2 (fw 2 es (m*2) [a']) (m*2+1) [b']).flatten=A.flatten++(a'::b'::R):=by rw[l,g,show A.flatten++([a']++b::R)=(A.flatten++[a'])++(b::R) by simp,je1 (by simp[hf]),<-List.drop_drop,List.drop_left' (by simp[hf])];simp
 refine⟨?_,?_,e,?_,by rw[k,f],f⟩
 .unfold dY;rw[oc,j,<-hf,List.drop_left];rfl
 .unfold dY;rw[oc,p];rfl
 .have s:=CL o;rw[n,k,f,<-qc6 (m+1) (fw 2 (fw 2 es (m*2) [a']) (m*2+1) [b'])]at s;have t:(fw 2 (fw 2 es (m*2) [a']) (m*2+1) [b'])=A++chunk 2 (es.length - m) (a'::b'::R):=by
   rw[<-zl hA2,i,show m+(es.length - m)=es.length by omega,<-n,<-f,<-k,CL o]
  rw[t,show es.length - m=(es.length - m - 1)+1 by omega,chunk,List.take_append,ux od,i,show m+1 - m=1 by omega];rfl
def BL{α:Type}(P Q:α->Prop)(c:α->α->Int)(a:α->List α)(s:List (List α×List α)->Int)(left:List (List α×List α)->Nat)(cd:List α×List α->bd)(W:Nat->Nat->List bd->Int->Prop)(K:br)(h:Nat)(d:K h)
 (s0:s []=0) (s1:∀R,s (R++[([],[])])=s R) (s2:∀R (x y:List α),(x=[]\/y=[])->¬(x=[]/\y=[])->s (R++[(x,y)])=gP x.length y.length)
 (s3:∀R x y xs ys,c x y≠0->s (R++[(x::xs,y::ys)])=c x y) (s4:∀R x y xs ys,c x y=0->s (R++[(x::xs,y::ys)])=s (R++[(xs,ys)]++[(a x,a y)]))
 (l1:∀R x y,left (R++[(x,y)]) > left R) (l4:∀R x y xs ys,left (R++[(xs,ys)]++[(a x,a y)])<left (R++[(x::xs,y::ys)])) (l5:∀R,R.length<=left R)
 (h0:∀k es,K k->W k 0 es 0)
 (h1:∀k m es A (x y:List α),K k->(∀r∈es,r.length=2)->A.length=m->m<=50000000->es.take (m+1)=A++[cd (x,y)]->(x=[]\/y=[])->¬(x=[]/\y=[])->W k (m+1) es (gP x.length y.length))
 (h2:∀k m es A r,K k->(∀r∈es,r.length=2)->A.length=m->m<=50000000->es.take (m+1)=A++[cd ([],[])]->W k m es r->W k (m+1) es r)
 (h3:∀k m es A x y xs ys,P x->Q y->K k->(∀r∈es,r.length=2)->A.length=m->m<=50000000->es.take (m+1)=A++[cd (x::xs,y::ys)]->(c x y≠0->W k (m+1) es (c x y))/\(c x y=0->∀r,W h (m+1+1) (A++[cd (xs,ys)]++[cd (a x,a y)]) r->W k (m+1) es r))
 (hcd:∀p,(cd p).length=2) (hP:∀x,P x->∀z∈a x,P z) (hQ:∀x,Q x->∀z∈a x,Q z):∀(N:Nat) (R:List (List α×List α)) (k l:Nat) (es:List bd),left R<=N->N<=50000000->K k->(∀r∈es,r.length=2)->R.length=l->es.take l=R.map cd->(∀p∈R,(∀x∈p.1,P x)/\∀y∈p.2,Q y)->W k l es (s R)
 | N, R,k,l,es,G,H,hk,hes,o,E,j=>by
  rcases jf2 R with rfl|⟨R,⟨x,y⟩,rfl⟩
  .obtain rfl:l=0:=o.symm;rw[s0];exact h0 k es hk
  rw[jf3]at *;have g:=l1 R x y;have F:=l5 R;obtain rfl:l=R.length+1:=by simp at o;omega
  have b:es.take (R.length+1)=R.map cd++[cd (x,y)]:=by rw[E];simp
  have hm:(R.map cd).length=R.length:=oe
  have B:0<N:=od
  by_cases f:x=[]\/y=[]
  .by_cases e:x=[]/\y=[]
   .obtain⟨rfl,rfl⟩:=e;rw[s1];refine h2 k R.length es (R.map cd) _ hk hes hm od b (BL P Q c a s left cd W K h d s0 s1 s2 s3 s4 l1 l4 l5 h0 h1 h2 h3 hcd hP hQ (N - 1) R k R.length es od od hk hes rfl ?_ (λp g=>j p (by simp[g])));have:=congrArg (List.take R.length) b;rw[jh0,jc6 od,je1 hm]at this;exact this
   .rw[s2 R x y f e];exact h1 k R.length es (R.map cd) x y hk hes hm od b f e
  .match x,y,f with
   | [],_,f=>exact absurd (.inl rfl) f
   | _,[],f=>exact absurd (.inr rfl) f
   | x::xs,y::ys,_ =>
    have⟨v,w⟩:=j (x::xs,y::ys) oe;have t:=v x oe;have u:=w y oe;have⟨g1,g2⟩:=h3 k R.length es (R.map cd) x y xs ys t u hk hes hm od b
    by_cases i:c x y=0
    .rw[s4 R x y xs ys i];have C:=l4 R x y xs ys;refine g2 i _ (BL P Q c a s left cd W K h d s0 s1 s2 s3 s4 l1 l4 l5 h0 h1 h2 h3 hcd hP hQ (N - 1) (R++[(xs,ys)]++[(a x,a y)]) h _ _ od od d ?_ oe ?_ (λp g=>?_))
     .intro r q;simp only[ki,kB,qv]at q;rcases q with (⟨p,_,rfl⟩|rfl)|rfl<;>exact hcd _
     .rw[ux oe];simp
     .simp only[ki,qv]at g;rcases g with (g|rfl)|rfl
      .exact j p (by simp[g])
      .exact⟨λz n=>v z (by simp[n]),λz n=>w z (by simp[n])⟩
      .exact⟨hP x t,hQ y u⟩
    .rw[s3 R x y xs ys i];exact g1 i
termination_by N=>N
decreasing_by all_goals omega
def ldP (es:List bd) (q:Nat) (x:D):Prop:=(dY es q 1).bind (mkA false)=some (.of (.one (.d x)))
def mR{es:List bd}{q:Nat}{x:D}(h:dY es q 1=some [.d x]):ldP es q x:=by unfold ldP;rw[h];rfl
def UO (k m:Nat):Hints:=[(21,bA true),(25,jA m),(26,.one (.q k (m*2)))]
def siO (k m:Nat):List Prop:=[mD (aQ (decide ((0:Int)<Int.ofNat (m+1)))) (bA true),mD (lW (IntKind.i64.wrap (Int.ofNat (m+1) - 1))) (jA m),(if 2=2/\m<m+1 then some (AV.of (.one (.q k (m*2))))else none)=some (.of (.one (.q k (m*2))))]
def zJ{k m:Nat}(h:m<=50000000):∀p∈siO k m,p:=al (is_lt oe) (al (yY Zs) (al (if_pos ⟨rfl,od⟩) al0))
def EF (f:FuncId):A1:=.one (.d (.v (.func (.func f) #[] #[])))
def OV{α:Type}{x y:List α}(h:x=[]\/y=[])(c:¬(x=[]/\y=[])):gP x.length y.length≠0:=by
 rcases x with _|⟨a,x⟩<;>rcases y with _|⟨b,y⟩
 .exact absurd ⟨rfl,rfl⟩ c
 .rw[gP,if_pos oe];decide
 .rw[gP,if_neg ov,if_pos oe];decide
 .rcases h with h|h<;>cases h
def BX(a b:Int):Hd ⟨93,[iA a,iA b],.of (iA (gP a b))⟩:=by
 have c:∀a:Int,Hd ⟨112,[iA a],.of fA⟩:=λa=>runT func112 [(5,fA)] [] (ob:=[jJ (!decide (a=a)) false]) (al (eT oe) al0);have e:gP a b=if decide (a<b)=true then -1 else if decide (b<a)=true then 1 else 0:=by simp[gP]
 rw[e];generalize d:decide (a<b)=p;generalize f:decide (b<a)=q;cases p
 .cases q
  .exact runT func93 [(16,fA),(19,fA)] [⟨_,c a⟩,⟨_,c b⟩] (ob:=[jJ (decide (a<b)) false,jJ (decide (b<a)) false]) (al (eT d) (al (eT f) al0))
  .exact runT func93 [(16,fA),(19,bA true)] [⟨_,c a⟩,⟨_,c b⟩] (ob:=[jJ (decide (a<b)) false,jJ (decide (b<a)) true]) (al (eT d) (al (eT f) al0))
 .exact runT func93 [(16,bA true)] [⟨_,c a⟩,⟨_,c b⟩] (ob:=[jJ (decide (a<b)) true]) (al (eT d) al0)
abbrev sA (s:bp):A1:=.one (.d (.v (.string s)))
def aff(a b:ByteArray):Hd ⟨94,[sA a,sA b],.of (iA (Jn a b))⟩:=by
 have c:∀a:ByteArray,Hd ⟨113,[sA a],.of fA⟩:=λa=>runT func113 [(5,fA)] [] (ob:=[jJ (!(a.toList==a.toList)) false]) (al (eT oe) al0);have e:Jn a b=if Op.bytesLess a.toList b.toList=true then -1 else if (!(Op.bytesLess a.toList b.toList||a.toList==b.toList))=true then 1 else 0:=by
  unfold Jn
  by_cases h:Op.bytesLess a.toList b.toList=true
  .rw[if_pos h,if_pos h]
  .rw[if_neg h,if_neg h]
   by_cases g:a.toList=b.toList<;>simp[h,g]
 rw[e];generalize f:Op.bytesLess a.toList b.toList=p;generalize i:(!(p||a.toList==b.toList))=q;have d:(!(Op.bytesLess a.toList b.toList||a.toList==b.toList))=q:=by rw[f];exact i
 cases p
 .cases q
  .exact runT func94 [(16,fA),(19,fA)] [⟨_,c a⟩,⟨_,c b⟩] (ob:=[jJ (Op.bytesLess a.toList b.toList) false,jJ (!(Op.bytesLess a.toList b.toList||a.toList==b.toList)) false]) (al (eT f) (al (eT d) al0))
  .exact runT func94 [(16,fA),(19,bA true)] [⟨_,c a⟩,⟨_,c b⟩] (ob:=[jJ (Op.bytesLess a.toList b.toList) false,jJ (!(Op.bytesLess a.toList b.toList||a.toList==b.toList)) true]) (al (eT f) (al (eT d) al0))
 .exact runT func94 [(16,bA true)] [⟨_,c a⟩,⟨_,c b⟩] (ob:=[jJ (Op.bytesLess a.toList b.toList) true]) (al (eT f) al0)
def orA (x y:Int):A1:=.one (.d (.s 1 [[.v (.i x)],[.v (.i y)]]))
def orS (x y:Int) (j:Int):St:=[((0,6),.of (orA x y)),((0,7),.of (iA 2)),((0,8),.of (iA j)),((0,3),.of (iA 0))]
abbrev orL (x y j:Int) (ex:Nat) (q:St):Prop:=vO prog f92.ntmps ⟨gF f92,orS x y j,ex,q⟩
def adF(x y:Int):Hd ⟨92,[orA x y],.of (iA (if x≠0 then x else y))⟩:=by
 have f:=wI (S:=orS x y 0) (q:=gF f92=gF f92) rfl (ps:=[]) al0
 by_cases d:x=0
 .subst d;rw[if_neg oe]
  by_cases g:y=0
  .subst g;have b:orL 0 0 0 2 [((0,3),.of (iA 0))]:=LG (pre2:=orS 0 0 1) [] [] (LG (pre2:=orS 0 0 2) [] [] (xQ (e:=1) [] [] al0) al0) al0;exact Ce func92 [] [_] (by intro z a;rw[qv]at a;subst a;exact b) [] f
  .have c:jJ (!decide (y=0)) true:=eT (by simp[g]);have b:orL 0 y 0 1 [((0,2),.of (iA y))]:=LG (pre2:=orS 0 y 1) [] [] (xQ (e:=0) [(14,bA true)] [] (al c al0)) al0;exact Ce func92 [] [_] (by intro z a;rw[qv]at a;subst a;exact b) [] f
 .rw[if_pos d];have c:jJ (!decide (x=0)) true:=eT (by simp[d]);have b:orL x y 0 1 [((0,2),.of (iA x))]:=xQ (e:=0) [(14,bA true)] [] (al c al0);exact Ce func92 [] [_] (by intro z a;rw[qv]at a;subst a;exact b) [] f
def NC (p:ao×ao):bd:=[.s 7 (vasD p.1),.s 7 (vasD p.2)]
def siS (f k l:Nat) (es:List bd):St:=[((0,2),.of (EF 76)),((0,3),.of (EF f)),((0,9),.of (.one (.g k 2 l))),((k+1,0),.kv 138 2 es)]
abbrev Uq (f k l:Nat) (es:List bd) (ex:Nat) (q:St):Prop:=vO prog f75.ntmps ⟨gF f75,siS f k l es,ex,q⟩
def siP (f k l:Nat) (es:List bd) (r:Int):Prop:=Uq f k l es 1 [((0,8),.of (iA r))]\/r=0/\Uq f k l es 2 []
def Oi(x:Va):Hd ⟨76,[pF x],.of (qi x.args)⟩:=by have⟨c,d,b,g,e,f,a⟩:=x;exact aF func76 []
section
variable {f k m:Nat}{es A:List bd}(hf:f=91\/f=77) (hk:k=3000018\/k=3000104)
include hf hk
def si_0:Uq f k 0 es 2 []:=by have F:=λo a=>(xQ (e:=1) [] [] al0 (h:=o) (hc:=a):Uq f k 0 es 2 []);rcases hf with rfl|rfl<;>rcases hk with rfl|rfl<;>exact F oA oA
variable (hes:∀ r∈es,r.length=2) (hA:A.length=m) (hm:m<=50000000)
include hes hA hm
def adW{x y:ao}(h:es.take (m+1)=A++[NC (x,y)])(l:x=[]\/y=[])(g:¬(x=[]/\y=[])):Uq f k (m+1) es 1 [((0,8),.of (iA (gP x.length y.length)))]:=by
 have⟨b,c,_⟩:=vI (a':=.t) (b':=.t) hes hA h;have b:=mR b;have c:=mR c;have p:=zJ (k:=k) hm;have j:=BX ((vasD x).length:Int) ((vasD y).length:Int);have n:jJ (!decide (gP ((vasD x).length:Int) ((vasD y).length:Int)=0)) true:=eT (by rw[qY,qY];simp[OV l g]);rw[<-qY x,<-qY y];rcases x with _|⟨a,x⟩
 .have F:=λo i=>(xQ (e:=0) (UO k m++[(30,.one (.d (.s 7 (vasD [])))),(44,.one (.d (.s 7 (vasD [])))),(49,.one (.d (.s 7 (vasD y)))),(53,bA true)]) [⟨_,j⟩] (jX p (al b (al b (al c (al n al0))))) (h:=o) (hc:=i):Uq f k (m+1) es 1 [((0,8),.of (iA (gP ((vasD []).length:Int) ((vasD y).length:Int))))]);rcases hf with rfl|rfl<;>rcases hk with rfl|rfl<;>exact F oA oA
 .obtain rfl:y=[]:=l.resolve_left oe;have q:jJ (decide (((vasD (a::x)).length:Int)=0)) false:=eT (zE oX);have F:=λo i=>(xQ (e:=0) (UO k m++[(30,.one (.d (.s 7 (vasD (a::x))))),(32,fA),(37,.one (.d (.s 7 (vasD [])))),(44,.one (.d (.s 7 (vasD (a::x))))),(49,.one (.d (.s 7 (vasD [])))),(53,bA true)]) [⟨_,j⟩] (jX p (al b (al q (al c (al b (al c (al n al0))))))) (h:=o) (hc:=i):Uq f k (m+1) es 1 [((0,8),.of (iA (gP ((vasD (a::x)).length:Int) ((vasD []).length:Int))))]);rcases hf with rfl|rfl<;>rcases hk with rfl|rfl<;>exact F oA oA
def adw{ex:Nat}{q:St}(h:es.take (m+1)=A++[NC ([],[])])(hn:Uq f k m es ex q):Uq f k (m+1) es ex q:=by have⟨a,b,_⟩:=vI (a':=.t) (b':=.t) hes hA h;have a:=mR a;have b:=mR b;have j:=zJ (k:=k) hm;have i:=BX 0 0;have c:mD (lW (IntKind.i64.wrap (Int.ofNat (m+1) - 1))) (jA m):=yY Zs;have e:(if 2=2/\m<=m+1 then some (AV.of (.one (.g k 2 m)))else none)=some (.of (.one (.g k 2 m))):=if_pos ⟨rfl,od⟩;have F:=λo l=>LG (UO k m++[(30,.one (.d (.s 7 (vasD [])))),(44,.one (.d (.s 7 (vasD [])))),(49,.one (.d (.s 7 (vasD [])))),(58,jA m),(59,.one (.g k 2 m))]) [⟨_,i⟩] hn (jX j (al a (al a (al b (al c (al e al0)))))) (pre:=siS f k (m+1) es) (h:=o) (hc:=l);rcases hf with rfl|rfl<;>rcases hk with rfl|rfl<;>exact F oA oA
def adX{c:Va->Va->Int}{x y:Va}{xs ys:ao}(K:Hd ⟨f,[pF x,pF y],.of (iA (c x y))⟩)(h:es.take (m+1)=A++[NC (x::xs,y::ys)]) :
 (c x y≠0->Uq f k (m+1) es 1 [((0,8),.of (iA (c x y)))])/\(c x y=0->∀ex q,Uq f 3000104 (m+1+1) (A++[NC (xs,ys)]++[NC (x.args,y.args)]) ex q->Uq f k (m+1) es ex q):=by
 have⟨C,D,Z,H,I,J⟩:=vI (a':=.s 7 (vasD xs)) (b':=.s 7 (vasD ys)) hes hA h;have C:=mR C;have D:=mR D;have R:=zJ (k:=k) hm;have W:jJ (decide (((vasD (x::xs)).length:Int)=0)) false:=eT (zE oX);have X:jJ (decide (((vasD (y::ys)).length:Int)=0)) false:=eT (zE oX);have U:m*2+1<=es.length*2:=od
 have V:m*2+1+1<=(fw 2 es (m*2) [.s 7 (vasD xs)]).length*2:=by rw[J];omega
 have L:=jX R (al C (al W (al D (al X (al C (al D (al C (al D (al U (al V al0))))))))));have M:=Oi x;have N:=Oi y;have O:rowsLe ((fw 2 (fw 2 es (m*2) [.s 7 (vasD xs)]) (m*2+1) [.s 7 (vasD ys)]).take (m+1)++[NC (x.args,y.args)]) (A++[NC (xs,ys)]++[NC (x.args,y.args)]):=by rw[H];exact rows_refl _
 have P:zV 48 (m+1) (fw 2 (fw 2 es (m*2) [.s 7 (vasD xs)]) (m*2+1) [.s 7 (vasD ys)]) [NC (x.args,y.args)]:=iL (by rw[I];omega) oe rfl ov ot;generalize S:c x y=r at *;clear H I J h S;have⟨j,l,i,p,a,n,g⟩:=x;have⟨v,w,u,B,b,z,t⟩:=y;have T:Hints:=UO k m;refine⟨λE=>?_,λE ex q Q=>?_⟩
 .have Y:jJ (!decide (r=0)) true:=eT (by simp[E]);have F:=λo G=>(xQ (e:=0) (UO k m++[(30,.one (.d (.s 7 (vasD (.mk j l i p a n g::xs))))),(32,fA),(37,.one (.d (.s 7 (vasD (.mk v w u B b z t::ys))))),(39,fA),(63,.one (.d (.s 7 (vasD (.mk j l i p a n g::xs))))),(69,.one (.d (.s 7 (vasD (.mk v w u B b z t::ys))))),(77,.one (.d (.s 7 (vasD (.mk j l i p a n g::xs))))),(82,.one (.d (.s 7 (vasD (.mk v w u B b z t::ys))))),(93,bA true)]) [⟨_,K⟩] (jX L (al Y al0)) (h:=o) (hc:=G):Uq f k (m+1) es 1 [((0,8),.of (iA r))]);rcases hf with rfl|rfl<;>rcases hk with rfl|rfl<;>exact F oA oA
 .subst E;have F:=λo G=>LG (UO k m++[(30,.one (.d (.s 7 (vasD (.mk j l i p a n g::xs))))),(32,fA),(37,.one (.d (.s 7 (vasD (.mk v w u B b z t::ys))))),(39,fA),(63,.one (.d (.s 7 (vasD (.mk j l i p a n g::xs))))),(69,.one (.d (.s 7 (vasD (.mk v w u B b z t::ys))))),(77,.one (.d (.s 7 (vasD (.mk j l i p a n g::xs))))),(82,.one (.d (.s 7 (vasD (.mk v w u B b z t::ys))))),(2000104,.one (.d (.s 2 (A++[NC (xs,ys)]++[NC (a,b)]))))]) [⟨_,K⟩,⟨_,M⟩,⟨_,N⟩] Q (jX L (al O (al P al0))) (pre:=siS f k (m+1) es) (h:=o) (hc:=G);rcases hf with rfl|rfl<;>rcases hk with rfl|rfl<;>exact F oA oA
end
def Oh{f:FuncId}(b:f=91\/f=77){P Q:Va->Prop}{c:Va->Va->Int}(J:∀x,P x->∀z∈x.args,P z)(K:∀x,Q x->∀z∈x.args,Q z)(I:∀x y,P x->Q y->Hd ⟨f,[pF x,pF y],.of (iA (c x y))⟩){x y:Va}(M:P x)(N:Q y)(d:x.size<=20000000) :
 Hd ⟨75,[qi [x],qi [y],EF 76,EF f],.of (iA (qg c x y))⟩:=by
 have h:=BL P Q c Va.args (jL c) leftV NC (siP f) (λk=>k=3000018\/k=3000104) 3000104 (.inr rfl) rfl (Vm c) (Vh c) (Vn c) (RZ c) (λR x y=>by rw[iQ,jW];omega) (λR x y U V=>by
  have:=eP x;simp only[iQ,jW,vsizes];omega) NI
  (λk es hk=>.inr ⟨rfl,si_0 b hk⟩) (λk m es A x y hk hes hA hm h L g=>.inl (adW b hk hes hA hm h L g))
  (λk m es A r hk hes hA hm h a=>a.imp (adw b hk hes hA hm h) (λa=>⟨a.1,adw b hk hes hA hm h a.2⟩))
  (λk m es A x y U V O T hk hes hA hm h=>by have⟨g1,g2⟩:=adX b hk hes hA hm (I x y O T) h;exact⟨λe=>.inl (g1 e),λe r a=>a.imp (g2 e _ _) (λa=>⟨a.1,g2 e _ _ a.2⟩)⟩)
  (λp=>rfl) J K _ [([x],[y])] 3000018 1 [NC ([x],[y])] (jj _) (by rw[jW];simp[vsizes];omega) (.inl rfl) (by simp[NC]) rfl rfl (by simp[M,N])
 rw[Vl,Eg]at h;generalize qg c x y=r at h|-;have i:=λf=>wI (S:=siS f 3000018 1 [NC ([x],[y])]) (q:=gF f75=gF f75) rfl (ps:=[]) al0;have⟨n,s,l,v,t,u,j⟩:=x;have⟨C,D,B,H,E,G,w⟩:=y;rcases h with h|⟨rfl,h⟩
 .have F:=λo=>(Ce (res:=.of (iA r)) func75 [(18,nilA)] [_] (by intro z d;rw[qv]at d;subst d;exact h) [] (i f) (h:=o):Hd ⟨75,[qi [.mk n s l v t u j],qi [.mk C D B H E G w],EF 76,EF f],.of (iA r)⟩);rcases b with rfl|rfl<;>exact F oA
 .have F:=λo=>(Ce (res:=.of (iA 0)) func75 [(18,nilA)] [_] (by intro z d;rw[qv]at d;subst d;exact h) [] (i f) (h:=o):Hd ⟨75,[qi [.mk n s l v t u j],qi [.mk C D B H E G w],EF 76,EF f],.of (iA 0)⟩);rcases b with rfl|rfl<;>exact F oA
def ab1(x y:Va):Hd ⟨91,[pF x,pF y],.of (iA (nQ x y))⟩:=by have c:=BX x.n y.n;have d:=aff x.s y.s;have e:=adF (gP x.n y.n) (Jn x.s y.s);rw[show nQ x y=if gP x.n y.n≠0 then gP x.n y.n else Jn x.s y.s from rfl];generalize gP x.n y.n=a at *;generalize Jn x.s y.s=b at *;generalize (if a≠0 then a else b)=r at *;have⟨h,i,g,l,j,k,f⟩:=x;have⟨p,q,o,v,t,u,m⟩:=y;exact aF func91 [⟨_,c⟩,⟨_,d⟩,⟨_,e⟩]
def Tc{x y:Va}(a:x.size<=20000000):Hd ⟨66,[pF x,pF y],.of (iA (gT x y))⟩:=by have h:=Oh (f:=91) (.inl rfl) (P:=λ_=>True) (Q:=λ_=>True) (λ_ _ _ _=>trivial) (λ_ _ _ _=>trivial) (λx y _ _=>ab1 x y) (x:=x) (y:=y) trivial trivial a;rw[show gT x y=qg nQ x y from rfl];generalize qg nQ x y=r at *;have⟨d,e,c,j,g,i,b⟩:=x;have⟨m,n,l,q,o,p,k⟩:=y;exact aF func66 [⟨_,h⟩]
def argsN:Tr->aE
 | .nd _ _ _ _ l=>l
def kN:Tr->Int
 | .nd k _ _ _ _=>k
def nN:Tr->Int
 | .nd _ n _ _ _=>n
def pN:Tr->Int
 | .nd _ _ p _ _=>p
def sN:Tr->bp
 | .nd _ _ _ s _=>s
def aeG(t:Tr):t.size=sizes (argsN t)+1:=by cases t;simp[Tr.size,argsN]
mutual
def Ot (c:Tr->Tr->Int):Tr->Tr->Int
 | .nd k n p s args,y=>if c (.nd k n p s args) y≠0 then c (.nd k n p s args) y else jk c args (argsN y)
def jk (c:Tr->Tr->Int):aE->aE->Int
 | [],[]=>0
 | [],_::_=>-1
 | _::_,[]=>1
 | x::xs,y::ys=>if Ot c x y≠0 then Ot c x y else jk c xs ys
end
def L8(c:Tr->Tr->Int)(x y:Tr):Ot c x y=if c x y≠0 then c x y else jk c (argsN x) (argsN y):=by
 cases x;rw[Ot];rfl
def RS (c:Tr->Tr->Int):List (aE×aE)->Int
 | []=>0
 | r::R=>if jk c r.1 r.2≠0 then jk c r.1 r.2 else RS c R
def Cq (c:Tr->Tr->Int) (rows:List (aE×aE)):Int:=RS c rows.reverse
def mo(c:Tr->Tr->Int)(rows:List (aE×aE))(r:aE×aE):Cq c (rows++[r])=if jk c r.1 r.2≠0 then jk c r.1 r.2 else Cq c rows:=by simp[Cq,RS]
def RV(c:Tr->Tr->Int)(r:aE×aE):Cq c [r]=jk c r.1 r.2:=by
 have:=mo c [] r;rw[qe5]at this;rw[this]
 by_cases h:jk c r.1 r.2=0
 .rw[if_neg (by simpa using h),h];rfl
 .rw[if_pos h]
def RX(c:Tr->Tr->Int)(rows:List (aE×aE)):Cq c (rows++[([],[])])=Cq c rows:=by rw[mo];simp[jk]
def RU(c:Tr->Tr->Int)(rows:List (aE×aE))(x y:aE)(h:x=[]\/y=[])(f:¬(x=[]/\y=[])):Cq c (rows++[(x,y)])=gP x.length y.length:=by
 rw[mo]
 cases x with
 | nil=>cases y with
  | nil=>simp at f
  | cons b y =>
   have d:jk c [] (b::y) = -1:=by rw[jk]
   have e:gP (([]:aE).length:Nat) ((b::y).length:Nat) = -1:=by rw[gP,if_pos oe]
   rw[e];simp[d]
 | cons a x=>cases y with
  | nil =>
   have d:jk c (a::x) []=1:=by rw[jk]
   have e:gP ((a::x).length:Nat) (([]:aE).length:Nat)=1:=by rw[gP,if_neg ov,if_pos oe]
   rw[e];simp[d]
  | cons b y=>simp at h
def RY(c:Tr->Tr->Int)(rows:List (aE×aE))(x y:Tr)(xs ys:aE)(h:c x y≠0):Cq c (rows++[(x::xs,y::ys)])=c x y:=by
 have a:Ot c x y=c x y:=by rw[L8,if_pos h]
 have b:jk c (x::xs) (y::ys)=c x y:=by rw[jk,a,if_pos h]
 rw[mo];simp only[b];rw[if_pos h]
def Oy(c:Tr->Tr->Int)(rows:List (aE×aE))(x y:Tr)(xs ys:aE)(h:c x y=0):Cq c (rows++[(x::xs,y::ys)])=Cq c (rows++[(xs,ys)]++[(argsN x,argsN y)]):=by
 have b:Ot c x y=jk c (argsN x) (argsN y):=by rw[L8,if_neg (by simpa using h)]
 rw[mo,mo,mo];simp only;rw[jk,b]
 by_cases a:jk c (argsN x) (argsN y)=0
 .simp[a]
 .rw[if_pos a,if_pos a];simp[a]
def uy (rows:List (aE×aE)):Nat:=(rows.map λr=>2*sizes r.1+1).sum
def iP(a b:List (aE×aE)):uy (a++b)=uy a+uy b:=by simp[uy]
def jV(r:aE×aE):uy [r]=2*sizes r.1+1:=by simp[uy]
def NG(rows:List (aE×aE)):rows.length<=uy rows:=by
 induction rows with
 | nil=>simp
 | cons r l a=>simp only[uy,qc0,ka0,js]at a|-;omega
def Nz (p:aE×aE):bd:=[.s 5 (ndsD p.1),.s 5 (ndsD p.2)]
def sjS (f k l:Nat) (es:List bd):St:=[((0,2),.of (EF 102)),((0,3),.of (EF f)),((0,9),.of (.one (.g k 2 l))),((k+1,0),.kv 159 2 es)]
abbrev Ut (f k l:Nat) (es:List bd) (ex:Nat) (q:St):Prop:=vO prog f103.ntmps ⟨gF f103,sjS f k l es,ex,q⟩
def sjP (f k l:Nat) (es:List bd) (r:Int):Prop:=Ut f k l es 1 [((0,8),.of (iA r))]\/r=0/\Ut f k l es 2 []
def JC(x:Tr):Hd ⟨102,[ndA x],.of (CW (argsN x))⟩:=by have⟨b,c,a,e,d⟩:=x;exact aF func102 []
section
variable {f k m:Nat}{es A:List bd}(hf:f=104) (hk:k=3000018\/k=3000104)
include hf hk
def sj_0:Ut f k 0 es 2 []:=by have F:=λo a=>(xQ (e:=1) [] [] al0 (h:=o) (hc:=a):Ut f k 0 es 2 []);subst hf;rcases hk with rfl|rfl<;>exact F oA oA
variable (hes:∀ r∈es,r.length=2) (hA:A.length=m) (hm:m<=50000000)
include hes hA hm
def adY{x y:aE}(h:es.take (m+1)=A++[Nz (x,y)])(l:x=[]\/y=[])(g:¬(x=[]/\y=[])):Ut f k (m+1) es 1 [((0,8),.of (iA (gP x.length y.length)))]:=by
 have⟨b,c,_⟩:=vI (a':=.t) (b':=.t) hes hA h;have b:=mR b;have c:=mR c;have p:=zJ (k:=k) hm;have j:=BX ((ndsD x).length:Int) ((ndsD y).length:Int);have n:jJ (!decide (gP ((ndsD x).length:Int) ((ndsD y).length:Int)=0)) true:=eT (by rw[Hf,Hf];simp[OV l g]);rw[<-Hf x,<-Hf y];rcases x with _|⟨a,x⟩
 .have F:=λo i=>(xQ (e:=0) (UO k m++[(30,.one (.d (.s 5 (ndsD [])))),(44,.one (.d (.s 5 (ndsD [])))),(49,.one (.d (.s 5 (ndsD y)))),(53,bA true)]) [⟨_,j⟩] (jX p (al b (al b (al c (al n al0))))) (h:=o) (hc:=i):Ut f k (m+1) es 1 [((0,8),.of (iA (gP ((ndsD []).length:Int) ((ndsD y).length:Int))))]);subst hf;rcases hk with rfl|rfl<;>exact F oA oA
 .obtain rfl:y=[]:=l.resolve_left oe;have q:jJ (decide (((ndsD (a::x)).length:Int)=0)) false:=eT (zE OF);have F:=λo i=>(xQ (e:=0) (UO k m++[(30,.one (.d (.s 5 (ndsD (a::x))))),(32,fA),(37,.one (.d (.s 5 (ndsD [])))),(44,.one (.d (.s 5 (ndsD (a::x))))),(49,.one (.d (.s 5 (ndsD [])))),(53,bA true)]) [⟨_,j⟩] (jX p (al b (al q (al c (al b (al c (al n al0))))))) (h:=o) (hc:=i):Ut f k (m+1) es 1 [((0,8),.of (iA (gP ((ndsD (a::x)).length:Int) ((ndsD []).length:Int))))]);subst hf;rcases hk with rfl|rfl<;>exact F oA oA
def adx{ex:Nat}{q:St}(h:es.take (m+1)=A++[Nz ([],[])])(hn:Ut f k m es ex q):Ut f k (m+1) es ex q:=by have⟨a,b,_⟩:=vI (a':=.t) (b':=.t) hes hA h;have a:=mR a;have b:=mR b;have j:=zJ (k:=k) hm;have i:=BX 0 0;have c:mD (lW (IntKind.i64.wrap (Int.ofNat (m+1) - 1))) (jA m):=yY Zs;have e:(if 2=2/\m<=m+1 then some (AV.of (.one (.g k 2 m)))else none)=some (.of (.one (.g k 2 m))):=if_pos ⟨rfl,od⟩;have F:=λo l=>LG (UO k m++[(30,.one (.d (.s 5 (ndsD [])))),(44,.one (.d (.s 5 (ndsD [])))),(49,.one (.d (.s 5 (ndsD [])))),(58,jA m),(59,.one (.g k 2 m))]) [⟨_,i⟩] hn (jX j (al a (al a (al b (al c (al e al0)))))) (pre:=sjS f k (m+1) es) (h:=o) (hc:=l);subst hf;rcases hk with rfl|rfl<;>exact F oA oA
def adZ{c:Tr->Tr->Int}{x y:Tr}{xs ys:aE}(G:Hd ⟨f,[ndA x,ndA y],.of (iA (c x y))⟩)(h:es.take (m+1)=A++[Nz (x::xs,y::ys)]) :
 (c x y≠0->Ut f k (m+1) es 1 [((0,8),.of (iA (c x y)))])/\(c x y=0->∀ex q,Ut f 3000104 (m+1+1) (A++[Nz (xs,ys)]++[Nz (argsN x,argsN y)]) ex q->Ut f k (m+1) es ex q):=by
 have⟨v,w,V,C,D,E⟩:=vI (a':=.s 5 (ndsD xs)) (b':=.s 5 (ndsD ys)) hes hA h;have v:=mR v;have w:=mR w;have N:=zJ (k:=k) hm;have R:jJ (decide (((ndsD (x::xs)).length:Int)=0)) false:=eT (zE OF);have S:jJ (decide (((ndsD (y::ys)).length:Int)=0)) false:=eT (zE OF);have P:m*2+1<=es.length*2:=od
 have Q:m*2+1+1<=(fw 2 es (m*2) [.s 5 (ndsD xs)]).length*2:=by rw[E];omega
 have H:=jX N (al v (al R (al w (al S (al v (al w (al v (al w (al P (al Q al0))))))))));have I:=JC x;have J:=JC y;have K:rowsLe ((fw 2 (fw 2 es (m*2) [.s 5 (ndsD xs)]) (m*2+1) [.s 5 (ndsD ys)]).take (m+1)++[Nz (argsN x,argsN y)]) (A++[Nz (xs,ys)]++[Nz (argsN x,argsN y)]):=by rw[C];exact rows_refl _
 have L:zV 48 (m+1) (fw 2 (fw 2 es (m*2) [.s 5 (ndsD xs)]) (m*2+1) [.s 5 (ndsD ys)]) [Nz (argsN x,argsN y)]:=iL (by rw[D];omega) oe rfl ov ot;generalize O:c x y=r at *;clear C D E h O;have⟨i,j,g,l,a⟩:=x;have⟨p,t,n,u,b⟩:=y;have T:Hints:=UO k m;refine⟨λz=>?_,λz ex q M=>?_⟩
 .have U:jJ (!decide (r=0)) true:=eT (by simp[z]);have F:=λo B=>(xQ (e:=0) (UO k m++[(30,.one (.d (.s 5 (ndsD (.nd i j g l a::xs))))),(32,fA),(37,.one (.d (.s 5 (ndsD (.nd p t n u b::ys))))),(39,fA),(63,.one (.d (.s 5 (ndsD (.nd i j g l a::xs))))),(69,.one (.d (.s 5 (ndsD (.nd p t n u b::ys))))),(77,.one (.d (.s 5 (ndsD (.nd i j g l a::xs))))),(82,.one (.d (.s 5 (ndsD (.nd p t n u b::ys))))),(93,bA true)]) [⟨_,G⟩] (jX H (al U al0)) (h:=o) (hc:=B):Ut f k (m+1) es 1 [((0,8),.of (iA r))]);subst hf;rcases hk with rfl|rfl<;>exact F oA oA
 .subst z;have F:=λo B=>LG (UO k m++[(30,.one (.d (.s 5 (ndsD (.nd i j g l a::xs))))),(32,fA),(37,.one (.d (.s 5 (ndsD (.nd p t n u b::ys))))),(39,fA),(63,.one (.d (.s 5 (ndsD (.nd i j g l a::xs))))),(69,.one (.d (.s 5 (ndsD (.nd p t n u b::ys))))),(77,.one (.d (.s 5 (ndsD (.nd i j g l a::xs))))),(82,.one (.d (.s 5 (ndsD (.nd p t n u b::ys))))),(2000104,.one (.d (.s 2 (A++[Nz (xs,ys)]++[Nz (a,b)]))))]) [⟨_,G⟩,⟨_,I⟩,⟨_,J⟩] M (jX H (al K (al L al0))) (pre:=sjS f k (m+1) es) (h:=o) (hc:=B);subst hf;rcases hk with rfl|rfl<;>exact F oA oA
end
def aaf{f:FuncId}(b:f=104){P Q:Tr->Prop}{c:Tr->Tr->Int}(n:∀x,P x->∀z∈argsN x,P z)(s:∀x,Q x->∀z∈argsN x,Q z)(l:∀x y,P x->Q y->Hd ⟨f,[ndA x,ndA y],.of (iA (c x y))⟩){xs ys:aE}(u:∀x∈xs,P x)(v:∀y∈ys,Q y)(d:sizes xs<=20000000) :
 Hd ⟨103,[CW xs,CW ys,EF 102,EF f],.of (iA (jk c xs ys))⟩:=by
 have h:=BL P Q c argsN (Cq c) uy Nz (sjP f) (λk=>k=3000018\/k=3000104) 3000104 (.inr rfl) rfl (RX c) (RU c) (RY c) (Oy c) (λR x y=>by rw[iP,jV];omega) (λR x y xs ys=>by
  have:=aeG x;simp only[iP,jV,sizes];omega) NG
  (λk es hk=>.inr ⟨rfl,sj_0 b hk⟩) (λk m es A x y hk hes hA hm h t g=>.inl (adY b hk hes hA hm h t g))
  (λk m es A r hk hes hA hm h a=>a.imp (adx b hk hes hA hm h) (λa=>⟨a.1,adx b hk hes hA hm h a.2⟩))
  (λk m es A x y xs ys w B hk hes hA hm h=>by have⟨g1,g2⟩:=adZ b hk hes hA hm (l x y w B) h;exact⟨λe=>.inl (g1 e),λe r a=>a.imp (g2 e _ _) (λa=>⟨a.1,g2 e _ _ a.2⟩)⟩)
  (λp=>rfl) n s _ [(xs,ys)] 3000018 1 [Nz (xs,ys)] (jj _) (by rw[jV];simp only;omega) (.inl rfl) (by simp[Nz]) rfl rfl (by intro p i;rw[qv]at i;subst i;exact⟨u,v⟩)
 rw[RV]at h;simp only at h;generalize jk c xs ys=r at h|-;have j:=λf=>wI (S:=sjS f 3000018 1 [Nz (xs,ys)]) (q:=gF f103=gF f103) rfl (ps:=[]) al0;rcases h with h|⟨rfl,h⟩
 .have F:=λo=>(Ce (res:=.of (iA r)) func103 [(18,nilA)] [_] (by intro z d;rw[qv]at d;subst d;exact h) [] (j f) (h:=o):Hd ⟨103,[CW xs,CW ys,EF 102,EF f],.of (iA r)⟩);subst b;exact F oA
 .have F:=λo=>(Ce (res:=.of (iA 0)) func103 [(18,nilA)] [_] (by intro z d;rw[qv]at d;subst d;exact h) [] (j f) (h:=o):Hd ⟨103,[CW xs,CW ys,EF 102,EF f],.of (iA 0)⟩);subst b;exact F oA
def uK (x y:Tr):Int:=if kN x=kN y/\nN x=nN y/\pN x=pN y/\(sN x).toList=(sN y).toList then 0 else 1
def ab0(x y:Tr):Hd ⟨104,[ndA x,ndA y],.of (iA (uK x y))⟩:=by
 have⟨f,g,d,i,v⟩:=x;have⟨k,l,j,m,w⟩:=y;have e:uK (.nd f g d i v) (.nd k l j m w)=if ((!decide (f=k))||(!decide (g=l))||(!decide (d=j))||(!(i.toList==m.toList)))then 1 else 0:=by
  unfold uK kN nN pN sN
  by_cases r:f=k<;>by_cases s:g=l<;>by_cases t:d=j<;>by_cases z:i.toList=m.toList<;>simp[r,s,t,z]
 rw[e];generalize u:(!decide (f=k))=a;generalize r:(!decide (g=l))=b;generalize s:(!decide (d=j))=c;generalize t:(!(i.toList==m.toList))=n;have q:∀p∈Xk [(true,jJ (!decide (f=k)) a),(!a,jJ (!decide (g=l)) b),(!a && !b,jJ (!decide (d=j)) c),(!a && !b && !c,jJ (!(i.toList==m.toList)) n)],p:=IM (eT u) (IM (eT r) (IM (eT s) (IM (eT t) al0)));have G:=λo=>(runT (res:=.of (iA (if (a||b||c||n)then 1 else 0))) func104 [(9,bA a),(15,bA b),(22,bA c),(29,bA n)] [] q (h:=o):Hd ⟨104,[ndA (.nd f g d i v),ndA (.nd k l j m w)],.of (iA (if (a||b||c||n)then 1 else 0))⟩);clear u r s t q e;cases a<;>cases b<;>cases c<;>cases n<;>exact G oA
def Ns{xs ys:aE}(a:sizes xs<=20000000):Hd ⟨78,[CW xs,CW ys],aQ (decide (jk uK xs ys=0))⟩:=by have h:=aaf (f:=104) rfl (P:=λ_=>True) (Q:=λ_=>True) (λ_ _ _ _=>trivial) (λ_ _ _ _=>trivial) (λx y _ _=>ab0 x y) (xs:=xs) (ys:=ys) (λ_ _=>trivial) (λ_ _=>trivial) a;generalize jk uK xs ys=r at *;exact aF func78 [⟨_,h⟩]
